/- A part. -/
import Derived.Test.YtnapepbdohidgaaGreatDoorQU03
import Derived.Conc.Beside
import Derived.Conc.CrowdComm
import Derived.Conc.CrowdTrace
set_option maxHeartbeats 4000000
set_option maxRecDepth 100000
open Go renaming World->Wz,Value->Wq,Goroutine->Wj,Program->Wx,Frame->Wv,undef->Wy
namespace Go.Proofs.Qw
section
open Go
open Go.Conc (crowd Past EvL Deaf QuitsD woken awake crowd_pick runT_crowd_go rcase scase parked ph)
open Go.ConcN (sumTo upd sumTo_upd upd_ne upd_same)
def Fin (P:Wx)(Post:Wq->Wz->Prop)(gs:Array Wj)(w:Wz)(sl:Option (Nat×Nat))(t:Trace):Prop:=
 ∃N last o w' t',runNT P (N+1) (crowd gs w sl) t=(.ended o w',t')/\runN P N (crowd gs w sl)=.next last/\step P last=.ended o w'/\Conc.Good P Post last o w' t'
theorem Fin.next {P:Wx}{Post:Wq->Wz->Prop}{gs gs':Array Wj}{w w':Wz}{sl sl':Option (Nat×Nat)}{t:Trace}{ops:Array MemOp}(hs:stepT P (crowd gs w sl)=(.next (crowd gs' w' sl'),ops))(h:Fin P Post gs' w' sl' (t++ops)):Fin P Post gs w sl t:=by
 obtain ⟨N,last,o,w2,t2,h1,h2,h3,h4⟩:=h;exact ⟨N+1,last,o,w2,t2,by rw [runNT];simp only [hs];exact h1,by rw [runN];simp only [step,hs];exact h2,h3,h4⟩
theorem Fin.last {P:Wx}{Post:Wq->Wz->Prop}{gs:Array Wj}{w w':Wz}{sl:Option (Nat×Nat)}{t:Trace}{ops:Array MemOp}{o:Outcome}(hs:stepT P (crowd gs w sl)=(.ended o w',ops))(h:Conc.Good P Post (crowd gs w sl) o w' (t++ops)):Fin P Post gs w sl t:=
 ⟨0,crowd gs w sl,o,w',t++ops,by simp [runNT,hs],rfl,by simp [step,hs],h⟩
structure Lv (P:Wx)(K:Nat->Prop)(t:Trace)(gs:Array Wj)(q:Nat->Nat):Prop where
 old:∀i g,0<i->¬K i->gs[i]?=some g->QuitsD P (q i) (Deaf t i) g
 above:∀j,gs.size<=j->Deaf t j=0
theorem jk {P:Wx}{n d:Nat}{g:Wj}(h:QuitsD P n d g)(w:Wz):g.again w=g:=Conc.again_running _ h.status
section
variable {P:Wx} {K:Nat->Prop} {Shun:Loc->Prop} {gs:Array Wj} {w:Wz} {sl:Option (Nat×Nat)} {t:Trace} {q:Nat->Nat}
theorem fu {P:Wx}{g g' o:Wj}{w:Wz}(h:o.again w=o):woken P g g' w o=o:=by
 unfold Conc.woken;split
 .exact h
 .rfl
theorem slip (hL:Lv P K t gs q){Pa:Trace->Prop}(hP:Pa t)(hmute:∀ (t:Trace)(i:Nat)(fn:FuncId)(pos:String)(es:Array Event),i≠0->¬K i->Pa t->(∀e∈es,e.mute=true)->Pa (t++MemOp.ofEvents i fn pos es)){i:Nat}{g:Wj}{d:Nat}{sl':Option (Nat×Nat)}(hi:gs[i]?=some g)(hg:g.status=.running)(hpos:0<i)(hK:¬K i)
    (hfirm:∀j o,(j=0\/K j)->gs[j]?=some o->o.again (w.at d)=o) (hst:stepT P (crowd gs w sl)=runT P (crowd gs (w.at d) sl') i):
    ∃gs' q' ops,stepT P (crowd gs w sl)=(.next (crowd gs' (w.at d) sl'),ops)/\gs'.size=gs.size/\(∀j,(j=0\/K j)->gs'[j]?=gs[j]?)/\Lv P K (t++ops) gs' q'/\Pa (t++ops)/\sumTo gs'.size q'<sumTo gs.size q/\(∀op∈ops,op.g=i):=by
  have hq:=hL.old i g hpos hK hi;have hi0:(i==0)=false:=by simp;omega
  have hlt:i<gs.size:=(eS hi).1;cases hqi:q i with
  |zero=>rw [hqi] at hq;rw [hq.1] at hg;cases hg
  |succ k=>
    rw [hqi] at hq;rcases hq with ⟨hf,_⟩|⟨_,g',es,hm,hstp,hq'⟩
    . rw [hf] at hg;cases hg
    have hrunT:=runT_crowd_go (P:=P) (sl:=sl') (i:=i) hi (by rw [hi0];exact hstp (w.at d));have hsz:((gs.map (woken P g g' (w.at d))).setIfInBounds i g').size=gs.size:=by simp
    have hsum:sumTo gs.size (upd q i k)+(k+1)=sumTo gs.size q+k:=by
      have:=sumTo_upd q k id hlt;simpa [hqi] using this
    refine ⟨_,upd q i k,_,hst.trans hrunT,hsz,fun j hj=>?_,⟨fun j x hj hKj hx=>?_,fun j hj=>?_⟩,hmute t i _ _ es (by omega) hK hP hm,by rw [hsz];omega,fun op hop=>by obtain ⟨e,_,rfl⟩:=Conc.mem_ofEvents hop;rfl⟩
    . have hne : i ≠ j := fun e => by subst e; rcases hj with h | h; · omega
                                      . exact hK h
      rw [sN hne,Array.getElem?_map];cases ho:gs[j]? with
      |none=>rfl
      |some o=>simp only [Option.map_some];rw [fu (hfirm j o hj ho)]
    . by_cases hji:i=j
      . subst hji
        rw [sS (by simpa using hlt)] at hx;obtain rfl:=oJ hx;rw [upd_same,Conc.Deaf_own];exact hq'
      . rw [sN hji,Array.getElem?_map] at hx
        obtain ⟨y,hy,rfl⟩:=Option.map_eq_some_iff.1 hx;have hqj:=hL.old j y hj hKj hy;rw [fu (jk hqj _),upd_ne q k (Ne.symm hji),Conc.Deaf_other t hji _ (fun op hop=>by obtain ⟨e,_,rfl⟩:=Conc.mem_ofEvents hop;rfl)];exact hqj
    . rw [Conc.Deaf_other t (g':=i) (by simp at hj;omega) _ (fun op hop=>by obtain ⟨e,_,rfl⟩:=Conc.mem_ofEvents hop;rfl)]
      exact hL.above j (by simpa using hj)
theorem pE (hL:Lv P K t gs q){i:Nat}{a a':Wj}{w':Wz}{es:Array Event}{d:Nat}{sl':Option (Nat×Nat)}(hi:gs[i]?=some a)(hK:i=0\/K i)(hst:stepT P (crowd gs w sl)=runT P (crowd gs (w.at d) sl') i)(hgo:stepG P (i==0) a (w.at d)=.go a' w' es):
    ∃gs' ops,stepT P (crowd gs w sl)=(.next (crowd gs' w' sl'),ops)/\ops=MemOp.ofEvents i a.frame.fn a.frame.place es/\gs'.size=gs.size/\gs'[i]?=some a'/\(∀j o,j≠i->gs[j]?=some o->gs'[j]?=some (woken P a a' w' o))/\Lv P K (t++ops) gs' q:=by
  have hrunT:=runT_crowd_go (P:=P) (sl:=sl') (i:=i) hi hgo;have hlt:i<gs.size:=(eS hi).1;refine ⟨_,_,hst.trans hrunT,rfl,by simp,by simp [hlt],fun j o hj ho=>?_,⟨fun j x hj hKj hx=>?_,fun j hj=>?_⟩⟩
  . rw [sN (Ne.symm hj),Array.getElem?_map,ho];rfl
  . have hne : i ≠ j := fun e => by subst e; rcases hK with h | h; · omega
                                    . exact hKj h
    rw [sN hne,Array.getElem?_map] at hx;obtain ⟨y,hy,rfl⟩:=Option.map_eq_some_iff.1 hx;have hq:=hL.old j y hj hKj hy;rw [fu (jk hq _),Conc.Deaf_other t hne _ (fun op hop=>by obtain ⟨e,_,rfl⟩:=Conc.mem_ofEvents hop;rfl)];exact hq
  . rw [Conc.Deaf_other t (g':=i) (by simp at hj;omega) _ (fun op hop=>by obtain ⟨e,_,rfl⟩:=Conc.mem_ofEvents hop;rfl)]
    exact hL.above j (by simpa using hj)
def cP (B:Nat):MemAct->Prop
 | .send c _| .sendDone c _| .recv c _ _| .recvDone c _| .close c| .recvClosed c=>c<B
 |_=>False
theorem cP.low {B:Nat}{a:MemAct}(h:cP B a):a.low B:=by cases a<;>first|exact h|exact h.elim
theorem cP.none {B:Nat}{a:MemAct}(h:cP B a):a.touch?=none:=by cases a<;>first|rfl|exact h.elim
theorem cP.still {B:Nat}{a:MemAct}(h:cP B a):a≠.mark .disable/\a≠.mark .enable:=by cases a<;>first|exact h.elim|exact ⟨by simp,by simp⟩
theorem bj (t:Trace)(g:Nat)(u:Trace)(hu:∀op∈u,op.act≠.mark .disable/\op.act≠.mark .enable):Deaf (t++u) g=Deaf t g:=by
 obtain ⟨l⟩:=u;rw [Conc.Deaf_append];induction l generalizing t with
 |nil=>rfl
 |cons x l ih=>
  have hx:=hu x (by simp);have e:Conc.deafStep g (Deaf t g) x=Deaf t g:=by
   obtain ⟨xg,xf,xp,xa⟩:=x;cases xa with
   |mark m=>cases m<;>first|rfl|exact absurd rfl hx.1|exact absurd rfl hx.2
   |_=>rfl
  rw [List.foldl_cons,e];exact ih t (fun op hop=>hu op (by simp at hop ⊢;exact .inr hop))
theorem Lv.put (hL:Lv P K t gs q){gs':Array Wj}{u:Trace}(hu:∀op∈u,op.act≠.mark .disable/\op.act≠.mark .enable)(hsz:gs'.size=gs.size)(hs:∀j,0<j->¬K j->gs'[j]?=gs[j]?):Lv P K (t++u) gs' q:=
 ⟨fun i g hi hK hg=>by rw [bj t i u hu];exact hL.old i g hi hK (by rw [<-hs i hi hK];exact hg),fun j hj=>by rw [bj t j u hu];exact hL.above j (by omega)⟩
theorem zy {B:Nat}(h:Past Shun B t){u:Trace}(hu:∀op∈u,op.g=0/\cP B op.act):Past Shun B (t++u):=
 h.app0 (fun op hop=>(hu op hop).1) (fun op hop b hb=>by rw [(hu op hop).2.none] at hb;cases hb) (bj t 0 u (fun op hop=>(hu op hop).2.still)) (fun op hop=>(hu op hop).2.low)
theorem Lv.alone (hL:Lv P (fun _=>False) t gs q)(r:Nat)(b:Bool):partners (gs.setIfInBounds 0 ph) r b=[]:=by
 refine Conc.partners_nil (fun j x hx=>?_);rcases Conc.getElem?_stand gs 0 j x hx with ⟨-,rfl⟩|⟨hne,hx⟩
 .exact Conc.offersAt_ph r b
 .refine Conc.offersAt_of_not_blocked (fun e=>?_) r b;rcases (hL.old j x (by omega) (fun k=>k) hx).status with h|h<;>rw [h] at e<;>cases e
end
def gR:Loc->Prop:=fun _=>False
theorem jG {ρ:Ren}{V W:Wz}(S:bm ρ V W){e:Event}(h:iI ρ e):EvL gR W.heap.size e:=by
 obtain ⟨loc,wr,sy⟩:=e;cases loc with
 |cell a=>
  obtain ⟨x,h1,-⟩:=h;exact ⟨fun _ _ k=>k.elim,by simp,by simp,(S.lt h1).2⟩
 |obj r=>
  obtain ⟨x,h1,-⟩:=h;refine ⟨fun _ _ k=>k.elim,by simp,by simp,?_⟩;have:=(S.lt h1).2;cases wr<;>cases sy<;>exact this
 |mark m=>
  have h:RMk m:=h;cases h with
  |extern f=>exact ⟨fun _ _ k=>k.elim,by simp,by simp,trivial⟩
  |noRoom=>exact ⟨fun _ _ k=>k.elim,by simp,by simp,trivial⟩
 |output=>exact ⟨fun _ _ k=>k.elim,by simp,by simp,trivial⟩
 |goroutines=>exact h.elim
inductive LSs (P:Wx)(T:Wj->Wz->Prop):Wj->Wz->Wj->Wz->Prop
 |refl (g:Wj) (w:Wz):LSs P T g w g w
 |step {g g1 g2:Wj} {w w1 w2:Wz} (hT:¬T g w) (τ:Nat->Question->Nat) (d:Nat) (h:LS P g (w.on τ d) g1 w1) (hs:LSs P T g1 w1 g2 w2):LSs P T g w g2 w2
theorem LSs.trans {P:Wx}{T:Wj->Wz->Prop}{a b c:Wj}{u v w:Wz}(h:LSs P T a u b v)(k:LSs P T b v c w):LSs P T a u c w:=by
 induction h with
 |refl=>exact k
 |step hT τ d h _ ih=>exact .step hT τ d h (ih k)
def Quiet (ρ:Ren)(V:Wz):Prop:=ρ.F lq=false/\∀a b o,ρ a b->V.heap[a]?=some o->o.isChan=true->∃n s q tm,o=.chan n #[] true s q tm
theorem Quiet.reach {ρ ρ':Ren}{w w' u u':Wz}(h:Quiet ρ w)(hS:ρ.F fS=false)(R:Reach ρ ρ' w w' u u'):Quiet ρ' u:=⟨by rw [R.le.F];exact h.1,fun a b o hab ho hc=>by
 rcases R.chs.only h.1 a o ho hc with k|⟨k,-⟩
 .rcases R.new a b hab with k2|⟨k2,-⟩
  .exact h.2 a b o k2 k hc
  .have:=(eS k).1;omega
 .rw [hS] at k;cases k⟩
structure Outer where
 Ko:Nat->Prop
 W0:Wz
 lt:∀b,Ko b->b<W0.heap.size
 R:Nat->Nat->Prop
 pin:Nat->Option (Array Wq)
 bad:TypeId
def Kp (U:Outer)(W:Wz):Prop:=U.W0.heap.size<=W.heap.size/\W.output=U.W0.output/\∀b,U.Ko b->W.heap[b]?=U.W0.heap[b]?
def Off (U:Outer)(ρ:Ren):Prop:=(∀a b,ρ a b->¬U.Ko b)/\(∀a b,U.R a b->ρ a b)/\ρ.pin=U.pin/\ρ.bad=U.bad
theorem Kp.keep {U:Outer}{W W1:Wz}{ρ:Ren}(h:Kp U W)(hO:Off U ρ)(K:Keep ρ W W1):Kp U W1:=
 ⟨lT h.1 K.size,K.output.trans h.2.1,fun b hb=>(K.block b (lL (U.lt b hb) h.1) (fun a ha=>absurd hb (hO.1 a b ha))).trans (h.2.2 b hb)⟩
theorem Off.new {U:Outer}{W:Wz}{ρ ρ':Ren}(hO:Off U ρ)(h:Kp U W)(hle:∀a b,ρ a b->ρ' a b)(hn:∀a b,ρ' a b->ρ a b\/W.heap.size<=b)(hp:ρ'.pin=ρ.pin/\ρ'.bad=ρ.bad):Off U ρ':=⟨fun a b hab hb=>by
 rcases hn a b hab with k|k
 .exact hO.1 a b k hb
 .have:=U.lt b hb;have:=h.1;omega,fun a b k=>hle a b (hO.2.1 a b k),hp.1.trans hO.2.2.1,hp.2.trans hO.2.2.2⟩
theorem Kp.reach {U:Outer}{ρ ρ':Ren}{w w' u u':Wz}(h:Kp U w'/\Off U ρ)(R:Reach ρ ρ' w w' u u'):Kp U u'/\Off U ρ':=⟨h.1.keep h.2 R.keep,h.2.new h.1 R.le.sub (fun a b k=>(R.new a b k).imp id (·.2)) ⟨R.le.pin,R.le.bad⟩⟩
structure Rel (P:Wx) [Two P](U:Outer)(G:FuncId->Bool)(Y:List Wv)(ρ:Ren)(h g:Wj)(V W:Wz):Prop where
 go:RGo P ρ ([trap P.alt],Y) h g
 sim:bm ρ V W
 gid:GId P ρ
 ext:fH P ρ.F
 calm:ρ.F fS=false
 same:ρ.F=G
 firm:ρ.loose=false/\ρ.wide=false
 quiet:Quiet ρ V
 out:Kp U W/\Off U ρ
section
variable {P:Wx} [Two P]
def oA (P:Wx) [Two P](U:Outer)(G:FuncId->Bool)(Y:List Wv)(Post:Wq->Wz->Prop)(h:Wj)(V:Wz):Prop:=
 ∀ (gs:Array Wj) (g:Wj) (W:Wz) (sl:Option (Nat×Nat)) (t:Trace) (q:Nat->Nat) (ρ:Ren),gs[0]?=some g->Lv P (fun _=>False) t gs q->Past gR W.heap.size t->Rel P U G Y ρ h g V W->Fin P Post gs W sl t
def ui (P:Wx) [Two P](U:Outer)(G:FuncId->Bool)(Y:List Wv)(T:Wj->Wz->Prop)(Post:Wq->Wz->Prop):Prop:=
 ∀ (f:FuncId) (a a':Array Wq) (fr fr':Wv) (cs cs':List Wv) (V W:Wz) (ρ:Ren),Mk ρ.F f=true->RVs ρ a a'/\a.size=2->Rel P U G Y ρ {frame:=fr,callers:=cs,status:=.running,dying:=none} {frame:=fr',callers:=cs',status:=.running,dying:=none} V W ->
  Dem P.alt (fun g _=>NB [trap P.alt] g) T {frame:=Frame.enter P.alt f a .normal,callers:=fr::cs,status:=.running,dying:=none} V ->
  (∀h2 V2,LSs P.alt T {frame:=Frame.enter P.alt f a .normal,callers:=fr::cs,status:=.running,dying:=none} V h2 V2->oA P U G Y Post h2 V2) ->
  ∀ (gs:Array Wj) (sl:Option (Nat×Nat)) (t:Trace) (q:Nat->Nat),gs[0]?=some {frame:=Frame.enter P f a' .normal,callers:=fr'::cs',status:=.running,dying:=none}->Lv P (fun _=>False) t gs q->Past gR W.heap.size t->Fin P Post gs W sl t
omit [Two P] in
theorem RFs.nil_of {ρ:Ren}{x:Wv}{l':List Wv}(h:RFs P ρ ([x],[]) [x] l'):l'=[]:=by
 generalize hX:(([x],[]):List Wv×List Wv)=X at h;generalize hl:[x]=l at h;cases h with
 |base=>rw [<-hX]
 |cons _ _ hl2=>
  cases hl;subst hX;generalize hX:(([x],[]):List Wv×List Wv)=X at hl2;generalize hl:([]:List Wv)=l at hl2;cases hl2 with
  |base=>rw [<-hX] at hl;cases hl
  |cons _ _ _=>cases hl
theorem jH (B:Nat):∀ (t:Trace)(i:Nat)(fn:FuncId)(pos:String)(es:Array Event),i≠0->¬(fun _:Nat=>False) i->Past gR B t->(∀e∈es,e.mute=true)->Past gR B (t++MemOp.ofEvents i fn pos es):=
 fun _ _ _ _ _ hi _ h hm=>h.mute hi hm
def Leaf (P:Wx) [Two P](U:Outer)(G:FuncId->Bool)(T:Wj->Wz->Prop)(Post:Wq->Wz->Prop):Prop:=
 ∀ (h g:Wj) (V W:Wz) (ρ:Ren),T h V->Rel P U G [] ρ h g V W->∀d,∃v es ρ' V' W',stepG P true g (W.at d)=.ended (.done v) W' es/\Post v W'/\bm ρ' V' W'/\W.heap.size<=W'.heap.size/\∀e∈es,iI ρ' e
theorem pG {ρ:Ren}{V W:Wz}(S:bm ρ V W){c c':CommCase}(hcc:RC ρ c c'){r cap sent rcvd:Nat}{buf:Array Wq}{cl tm:Bool}(hc:c.chan=.chan (some r))(ho:V.heap[r]?=some (.chan cap buf cl sent rcvd tm)):
  ∃r' cap' buf' cl' sent' rcvd',c'.chan=.chan (some r')/\ρ r r'/\W.heap[r']?=some (.chan cap' buf' cl' sent' rcvd' tm)/\(ρ.loose=true\/RVs ρ buf buf')/\(ρ.wide=true\/cl=cl')/\¬ρ.old r:=by
 have h:=hcc.chan;rw [hc] at h;generalize c'.chan=x at h;cases h with
 |chan h=>
  cases h with
  | @some _ r' h=>
   obtain ⟨o,o',k1,k2,k3⟩:=S.obj _ _ h;rw [ho] at k1;cases k1;cases k3 with
   |chan _ cap' _ cl' _ _ s' q' _ hb hcl=>
    refine ⟨r',cap',_,cl',s',q',rfl,h,k2,hb,hcl,fun hold=>?_⟩;obtain ⟨o,f1,f2⟩:=S.fix _ hold;rw [ho] at f1;cases f1;exact f2
theorem vB {c:CommCase}{r:Nat}(h:c.chan=.chan (some r))(hs:c.send=none):c=rcase r c.zero:=by
 obtain ⟨a,b,z⟩:=c;simp only at h hs;subst h;subst hs;rfl
theorem zz {U:Outer}{T:Wj->Wz->Prop}{Post:Wq->Wz->Prop}{G:FuncId->Bool}(hleaf:Leaf P U G T Post):∀h V,T h V->oA P U G [] Post h V:=by
 have firm:∀ (gs:Array Wj) (g:Wj) (w:Wz),gs[0]?=some g->g.status=.running->∀j o,(j=0\/False)->gs[j]?=some o->o.again w=o:=fun gs g w h0 hr j o hj ho=>by
  rcases hj with rfl|hj
  .rw [h0] at ho;cases ho;exact Conc.again_running _ (.inl hr)
  .exact hj.elim
 have awk:∀ (gs:Array Wj) (g:Wj) (t:Trace) (q:Nat->Nat),gs[0]?=some g->g.status=.running->Lv P (fun _=>False) t gs q->∀x∈gs,awake x:=fun gs g t q h0 hr hL x hx=>by
  obtain ⟨i,hi,rfl⟩:=Array.mem_iff_getElem.1 hx;rcases Nat.eq_zero_or_pos i with rfl|hpos
  .have:gs[0]=g:=by simpa [eG hi] using h0
   rw [this];exact Conc.awake_of (.inl hr)
  .exact Conc.awake_of ((hL.old i _ hpos (fun k=>k) (eG hi)).status.elim .inl fun x=>.inr (.inr x))
 intro h V hT;intro gs g W sl t q ρ h0 hL hP hR;obtain ⟨M,hM⟩:∃M,sumTo gs.size q<=M:=⟨_,lR _⟩;induction M using Nat.strongRecOn generalizing gs W sl t q with
 |_ M ih=>
  have hr:=hR.go.status.2;obtain ⟨i,x,d,sl',hi,hx,hst⟩:=crowd_pick (P:=P) (w:=W) (sl:=sl) (awk gs g t q h0 hr hL) ⟨0,g,h0,hr⟩;rcases Nat.eq_zero_or_pos i with rfl|hpos
  .obtain rfl:x=g:=by rw [h0] at hi;exact (oJ hi).symm
   obtain ⟨v,es,ρ',V',W',he,hpost,hsim,hsz,hes⟩:=hleaf h x V W ρ hT hR d;have hrunT:=Conc.runT_many_ended (P:=P) (sl:=sl') (i:=0) hi (show stepG P (0==0) x (W.at d)=_ from he);have hP':=(hP.mono hsz).own (fn:=x.frame.fn) (pos:=x.frame.place) (fun e he=>jG hsim (hes e he));refine Fin.last (hst.trans hrunT) ⟨v,rfl,hpost,hP'.clean,hP'.over,⟨fun y hy=>?_,rfl⟩,fun j y hy hj=>?_⟩
   .obtain ⟨j,hj⟩:=List.mem_iff_getElem?.1 hy;rw [List.getElem?_drop] at hj;exact ⟨_,(hL.old (1+j) y (by omega) (fun k=>k) (by simpa [crowd] using hj)).leaves⟩
   .have hq:=hL.old j y (by omega) (fun k=>k) hy;refine ⟨q j,?_⟩;have e:(t++MemOp.ofEvents 0 x.frame.fn x.frame.place es).deaf j (t++MemOp.ofEvents 0 x.frame.fn x.frame.place es).size=Deaf t j:=
     Conc.Deaf_other t (g:=j) (g':=0) (by omega) _ (fun op hop=>by obtain ⟨e,_,rfl⟩:=Conc.mem_ofEvents hop;rfl)
    rw [e];exact hq.hears _
  .obtain ⟨gs',q',ops,e1,e2,e3,e4,e5,e6,-⟩:=slip hL hP (jH W.heap.size) hi hx hpos (fun k=>k) (firm gs g _ h0 hr) hst;exact Fin.next e1 (ih _ (by omega) gs' (W.at d) sl' (t++ops) q' ((e3 0 (.inl rfl)).trans h0) e4 e5 ⟨hR.go,⟨hR.sim.obj,hR.sim.fix,hR.sim.chan,hR.sim.os,hR.sim.pin⟩,hR.gid,hR.ext,hR.calm,hR.same,hR.firm,hR.quiet,hR.out⟩ (lR _))
theorem D5 (hZ:bu P)(hN:bI P){U:Outer}{T:Wj->Wz->Prop}{Post:Wq->Wz->Prop}{G:FuncId->Bool}{Y:List Wv}(hleaf:∀h V,T h V->oA P U G Y Post h V)(hap:ui P U G Y T Post){h:Wj}{V:Wz}(hD:Dem P.alt (fun g _=>NB [trap P.alt] g) T h V):∀h2 V2,LSs P.alt T h V h2 V2->oA P U G Y Post h2 V2:=by
 have firm:∀ (gs:Array Wj) (g:Wj) (w:Wz),gs[0]?=some g->g.status=.running->∀j o,(j=0\/False)->gs[j]?=some o->o.again w=o:=fun gs g w h0 hr j o hj ho=>by
  rcases hj with rfl|hj
  .rw [h0] at ho;cases ho;exact Conc.again_running _ (.inl hr)
  .exact hj.elim
 have awk:∀ (gs:Array Wj) (g:Wj) (t:Trace) (q:Nat->Nat),gs[0]?=some g->g.status=.running->Lv P (fun _=>False) t gs q->∀x∈gs,awake x:=fun gs g t q h0 hr hL x hx=>by
  obtain ⟨i,hi,rfl⟩:=Array.mem_iff_getElem.1 hx;rcases Nat.eq_zero_or_pos i with rfl|hpos
  .have:gs[0]=g:=by simpa [eG hi] using h0
   rw [this];exact Conc.awake_of (.inl hr)
  .exact Conc.awake_of ((hL.old i _ hpos (fun k=>k) (eG hi)).status.elim .inl fun x=>.inr (.inr x))
 induction hD with
 | @stop h V hT=>
  intro h2 V2 hs;cases hs with
  |step hnT _ _ _ _=>exact absurd hT hnT
  |refl=>exact hleaf _ _ hT
 | @step h V hNB hT hgo hn ihD=>
  intro h2 V2 hs;cases hs with
  |step hnT τ d hl hs=>exact ihD τ d _ _ hl h2 V2 hs
  |refl=>
   intro gs g W sl t q ρ h0 hL hP hR;obtain ⟨M,hM⟩:∃M,sumTo gs.size q<=M:=⟨_,lR _⟩;induction M using Nat.strongRecOn generalizing gs W sl t q with
   |_ M ih=>
    have hr:=hR.go.status.2;obtain ⟨i,x,d,sl',hi,hx,hst⟩:=crowd_pick (P:=P) (w:=W) (sl:=sl) (awk gs g t q h0 hr hL) ⟨0,g,h0,hr⟩;rcases Nat.eq_zero_or_pos i with rfl|hpos
    .obtain rfl:x=g:=by rw [h0] at hi;exact (oJ hi).symm
     have S:bm ρ (V.on W.tape d) (W.at d):=⟨hR.sim.obj,hR.sim.fix,hR.sim.chan,hR.sim.os,hR.sim.pin⟩;have hin:Base ([trap P.alt],Y) h.frame x.callers:=fun e=>hNB (hR.go.callers.tail e)
     have sf:=iN hZ hR.ext hN hR.gid true hR.go hin S (fun i=>rfl);obtain ⟨h',V',hls⟩:=hgo W.tape d;have hcalm:=hR.calm;rcases sf.rel with ⟨-,hlo⟩|⟨halt,hst2⟩|⟨f,ρ',a,a',fr,fr',cs,cs',u,u',es,es',A⟩
     .cases hls with
      |go e hr2 hd2=>
       have hlo:Lost (stepG P.alt true h (V.on W.tape d)):=hlo;rw [e] at hlo;obtain ⟨⟨_,_,e2,-⟩,-⟩:=hlo;rw [hd2] at e2;cases e2
      |comm e _=>
       have hlo:Lost (stepG P.alt true h (V.on W.tape d)):=hlo;rw [e] at hlo;exact hlo.elim
     .have halt:stepG P.alt true h (V.on W.tape d)=stepG P true h (V.on W.tape d):=halt;have hls0:=hls;cases hls with
      | @go _ _ es e hr2 hd2=>
       rw [halt] at e;have hst2:cN P ρ ([trap P.alt],Y) (V.on W.tape d) (W.at d) (stepG P true h (V.on W.tape d)) (stepG P true x (W.at d)):=hst2;rw [e] at hst2;generalize hy:stepG P true x (W.at d)=y at hst2;cases hst2 with
       | @go _ g' _ W' _ es' ρ' R hg he=>
        obtain ⟨gs',ops,e1,e2,e3,e4,-,e6⟩:=pE hL hi (.inl rfl) hst (show stepG P (0==0) x (W.at d)=_ from hy);subst e2;have hP':=(hP.mono (show W.heap.size<=W'.heap.size from R.keep.size)).own (fn:=x.frame.fn) (pos:=x.frame.place) (fun e k=>jG R.sim (he e k));exact Fin.next e1 (ihD W.tape d _ _ hls0 _ _ (.refl _ _) gs' g' W' sl' _ q ρ' e4 e6 hP' ⟨hg,R.sim,hR.gid.mono R.le,by rw [R.le.F];exact hR.ext,by rw [R.le.F];exact hcalm,R.le.F.trans hR.same,⟨R.le.loose.trans hR.firm.1,R.le.wide.trans hR.firm.2⟩,Quiet.reach (w:=V.on W.tape d) hR.quiet hcalm R,Kp.reach (w':=W.at d) hR.out R⟩)
      | @comm h1 c sh V1 es _ _ e hc=>
       rw [halt] at e;have hst2:cN P ρ ([trap P.alt],Y) (V.on W.tape d) (W.at d) (stepG P true h (V.on W.tape d)) (stepG P true x (W.at d)):=hst2;rw [e] at hst2;generalize hy:stepG P true x (W.at d)=y at hst2;cases hst2 with
       | @comm _ g' _ c' hC _ hsh hrun _ W1 _ es' ρ' R hg hcc he _=>
        have hsend:c.send=none:=by
         cases hx:c.send with
         |none=>rfl
         |some v=>rw [hC.1 (by rw [hx];rfl)] at hcalm;cases hcalm
        have hsend':c'.send=none:=by
         rcases hcc.send with ⟨-,k⟩|⟨v,_,k,-⟩
         .exact k
         .rw [hsend] at k;cases k
        have hcalm':ρ'.F fS=false:=by rw [R.le.F];exact hcalm
        have hquiet:Quiet ρ' V1:=Quiet.reach (w:=V.on W.tape d) hR.quiet hcalm R;have hfirm':ρ'.loose=false/\ρ'.wide=false:=⟨R.le.loose.trans hR.firm.1,R.le.wide.trans hR.firm.2⟩;have hP1:=(hP.mono (show W.heap.size<=W1.heap.size from R.keep.size)).own (fn:=x.frame.fn) (pos:=x.frame.place) (fun e k=>jG R.sim (he e k));have hmark:∀op∈MemOp.ofEvents 0 x.frame.fn x.frame.place es',op.act≠.mark .disable/\op.act≠.mark .enable:=fun op hop=>by
         obtain ⟨e,k,rfl⟩:=Conc.mem_ofEvents hop;have k:=he e k;obtain ⟨loc,wr,sy⟩:=e;cases loc with
         |mark m=>cases (show RMk m from k)<;>exact ⟨by simp [MemAct.ofEvent],by simp [MemAct.ofEvent]⟩
         |goroutines=>exact k.elim
         |_=>cases wr<;>cases sy<;>exact ⟨by simp [MemAct.ofEvent],by simp [MemAct.ofEvent]⟩
        have hsz0:0<gs.size:=(eS h0).1;have end_:∀ (g2:Wj) (W2:Wz) (u:Trace),runT P (crowd gs (W.at d) sl') 0=(.next (crowd (gs.setIfInBounds 0 g2) W2 sl'),MemOp.ofEvents 0 x.frame.fn x.frame.place es'++u)->(∀op∈u,op.g=0/\cP W1.heap.size op.act)->W2.heap.size=W1.heap.size->Rel P U G Y ρ' _ g2 _ W2->Fin P Post gs W sl t:=fun g2 W2 u hrt hu hsz hR2=>by
         refine Fin.next (hst.trans hrt) (ihD W.tape d _ _ hls0 _ _ (.refl _ _) (gs.setIfInBounds 0 g2) g2 W2 sl' _ q ρ' (by simp [hsz0]) ?_ ?_ hR2)
         .refine hL.put (fun op hop=>?_) (by simp) (fun j hj _=>by rw [sN (by omega)]);rcases Array.mem_append.1 hop with k|k
          .exact hmark op k
          .exact (hu op k).2.still
         .rw [<-Array.append_assoc,hsz];exact zy hP1 hu
        cases hc with
        |send k1 k2 k3 k4=>rw [hsend] at k2;cases k2
        |dead k1 k2 k3=>rw [hsend] at k2;cases k2
        | @recv r cap sent rcvd buf cl tm k1 k2 k3 k4=>
         exfalso;obtain ⟨r',cap',buf',cl',s',q',m1,m2,m3,m4,m5,m6⟩:=pG R.sim hcc k1 k3;obtain ⟨n,s0,q0,tm0,e0⟩:=hquiet.2 r r' _ m2 k3 rfl;cases e0;simp at k4
        | @shut r cap sent rcvd tm k1 k2 k3=>
         obtain ⟨r',cap',buf',cl',s',q',m1,m2,m3,m4,m5,m6⟩:=pG R.sim hcc k1 k3;have m4:RVs ρ' #[] buf':=m4.resolve_left (by rw [hfirm'.1];exact fun h=>by cases h);obtain rfl:=m5.resolve_left (by rw [hfirm'.2];exact fun h=>by cases h);obtain rfl:buf'=#[]:=Array.eq_empty_of_size_eq_zero (by rw [<-m4.size];rfl);have hc':=vB m1 hsend';have hlt:=(R.sim.lt m2).2;rw [hc'] at hy;refine end_ _ _ _ (Conc.crowd_recv_closed (i:=0) hi (show stepG P (0==0) x (W.at d)=_ from hy) m3 (hL.alone r' true)) (fun op hop=>?_) rfl ⟨?_,R.sim,hR.gid.mono R.le,by rw [R.le.F];exact hR.ext,hcalm',R.le.F.trans hR.same,hfirm',hquiet,Kp.reach (w':=W.at d) hR.out R⟩
         .simp at hop;subst hop;exact ⟨rfl,hlt⟩
         .rw [<-hc'];exact dn hg hcc sh hsh hcc.zero false
     .have hls0:=hls;have ho:stepG P.alt true h (V.on W.tape d)=_:=A.other;cases hls with
      |comm e _=>rw [ho] at e;cases e
      |go e hr2 hd2=>
       rw [ho] at e;cases e;have hth:stepG P true x (W.at d)=_:=A.there;obtain ⟨gs',ops,e1,e2,e3,e4,-,e6⟩:=pE hL hi (.inl rfl) hst (show stepG P (0==0) x (W.at d)=_ from hth);subst e2;have hP':=(hP.mono (show W.heap.size<=u'.heap.size from A.reach.keep.size)).own (fn:=x.frame.fn) (pos:=x.frame.place) (fun e k=>jG A.reach.sim (A.ev e k));have hle:=A.reach.le;refine Fin.next e1 (hap f a a' fr fr' cs cs' _ u' ρ' (by rw [hle.F];exact A.mark) A.args ⟨⟨A.frame,A.callers,A.kind,⟨rfl,rfl⟩,⟨rfl,rfl⟩,rfl,rfl⟩,A.reach.sim,hR.gid.mono hle,by rw [hle.F];exact hR.ext,by rw [hle.F];exact hcalm,hle.F.trans hR.same,⟨hle.loose.trans hR.firm.1,hle.wide.trans hR.firm.2⟩,Quiet.reach (w:=V.on W.tape d) hR.quiet hcalm A.reach,Kp.reach (w':=W.at d) hR.out A.reach⟩ (hn _ _ _ _ hls0) (fun h2 V2 hs=>ihD _ _ _ _ hls0 h2 V2 hs) gs' sl' _ q e4 e6 hP')
    .obtain ⟨gs',q',ops,e1,e2,e3,e4,e5,e6,-⟩:=slip hL hP (jH W.heap.size) hi hx hpos (fun k=>k) (firm gs g _ h0 hr) hst;exact Fin.next e1 (ih _ (by omega) gs' (W.at d) sl' (t++ops) q' ((e3 0 (.inl rfl)).trans h0) e4 e5 ⟨hR.go,⟨hR.sim.obj,hR.sim.fix,hR.sim.chan,hR.sim.os,hR.sim.pin⟩,hR.gid,hR.ext,hR.calm,hR.same,hR.firm,hR.quiet,hR.out⟩ (lR _))
end
end
section
open Go
open Go.Conc (crowd Past EvL Deaf QuitsD woken awake crowd_pick runT_crowd_go rcase scase parked ph Knows Before touchAt touch_of touchAt_of getElem?_append_cases getElem?_append_old knows_own noRace_append lt_size_of_getElem?)
def Tk (ρ:Ren)(a:Touch):Prop:=
 match a.loc with
 | .cell ad=>∃x,ρ x ad.block/\(a.write=true->¬ρ.old x)/\¬ρ.ch x
 | .obj r=>∃x,ρ x r/\(a.write=true->¬ρ.old x)/\(a.kind≠.atomic->¬ρ.ch x)
 |_=>True
theorem Tk.mono {ρ ρ':Ren}(l:ρ.le ρ'){a:Touch}(h:Tk ρ a):Tk ρ' a:=by
 obtain ⟨loc,wr,kd⟩:=a;cases loc with
 |cell ad=>obtain ⟨x,h1,h2,h3⟩:=h;exact ⟨x,l _ _ h1,by rw [l.old];exact h2,by rw [l.ch];exact h3⟩
 |obj r=>obtain ⟨x,h1,h2,h3⟩:=h;exact ⟨x,l _ _ h1,by rw [l.old];exact h2,by rw [l.ch];exact h3⟩
 |_=>trivial
theorem Gz {ρ:Ren}{e:Event}(h:iI ρ e){a:Touch}(ht:(MemAct.ofEvent e).touch?=some a):Tk ρ a:=by
 obtain ⟨loc,wr,sy⟩:=e;cases loc with
 |cell ad=>
  simp only [MemAct.ofEvent,MemAct.touch?,oI] at ht;subst ht;exact h
 |obj r=>
  obtain ⟨x,h1,h2,h3⟩:=h;cases wr<;>cases sy<;>simp only [MemAct.ofEvent,MemAct.touch?,oI] at ht<;>first|cases ht;done|(subst ht;exact ⟨x,h1,h2,fun k=>h3 (by first|rfl|exact absurd rfl k)⟩)
 |mark m=>
  have h:RMk m:=h;cases h<;>simp [MemAct.ofEvent,MemAct.touch?] at ht
 |output=>
  simp only [MemAct.ofEvent,MemAct.touch?,oI] at ht;subst ht;trivial
 |goroutines=>exact h.elim
def Far (ρ ρ':Ren):Prop:=∀b x y,ρ x b->ρ' y b->(ρ.old x/\ρ'.old y)\/(ρ.ch x/\ρ'.ch y)
theorem Far.symm {ρ ρ':Ren}(h:Far ρ ρ'):Far ρ' ρ:=fun b x y h1 h2=>(h b y x h2 h1).imp (fun k=>⟨k.2,k.1⟩) (fun k=>⟨k.2,k.1⟩)
theorem Far.no {ρ ρ':Ren}(h:Far ρ ρ'){a b:Touch}(ha:Tk ρ a)(hb:Tk ρ' b)(said:Bool):¬a.conflicts said b:=by
 obtain ⟨la,wa,ka⟩:=a;obtain ⟨lb,wb,kb⟩:=b;rintro ⟨h1,h2,h3,h4⟩;simp only at h1 h2 h3 h4;subst h1;cases la with
 |cell ad=>
  obtain ⟨x,x1,x2,x3⟩:=ha;obtain ⟨y,y1,y2,y3⟩:=hb;rcases h _ x y x1 y1 with ⟨k1,k2⟩|⟨k1,-⟩
  .rcases h3 with h3|h3
   .exact x2 h3 k1
   .exact y2 h3 k2
  .exact x3 k1
 |obj r=>
  obtain ⟨x,x1,x2,x3⟩:=ha;obtain ⟨y,y1,y2,y3⟩:=hb;rcases h _ x y x1 y1 with ⟨k1,k2⟩|⟨k1,k2⟩
  .rcases h3 with h3|h3
   .exact x2 h3 k1
   .exact y2 h3 k2
  .have e1:ka=.atomic:=Classical.byContradiction fun k=>x3 k k1
   have e2:kb=.atomic:=Classical.byContradiction fun k=>y3 k k2
   subst e1;subst e2;rcases h4 with h|h|⟨_,h,_⟩<;>cases h
 |_=>simp [Loc.isMemory] at h2
structure PhT (p q:Nat)(ρ ρ':Ren)(B:Nat)(t:Trace):Prop where
 ne:p≠q
 clean:∀said,¬Race said t
 kp:∀i a,touchAt t i=some a->a.loc.isMemory=true->Knows t p i\/(t.g? i=some q/\Tk ρ' a)
 kq:∀i a,touchAt t i=some a->a.loc.isMemory=true->Knows t q i\/(t.g? i=some p/\Tk ρ a)
 hp:Deaf t p=0
 hq:Deaf t q=0
 seen:∀op∈t,op.act.low B
section
variable {p q:Nat} {ρ ρ' ρ1:Ren} {B B':Nat} {t u:Trace}
theorem PhT.symm (h:PhT p q ρ ρ' B t):PhT q p ρ' ρ B t:=⟨h.ne.symm,h.clean,h.kq,h.kp,h.hq,h.hp,h.seen⟩
theorem g?_old {i g:Nat}(h:t.g? i=some g):(t++u).g? i=some g:=by
 unfold Trace.g? at h ⊢;obtain ⟨x,hx,hg⟩:=Option.map_eq_some_iff.1 h;rw [getElem?_append_old (lt_size_of_getElem? hx),hx];exact congrArg some hg
theorem PhT.app (h:PhT p q ρ ρ' B t)(l:ρ.le ρ1)(hF:Far ρ1 ρ')(hB:B<=B')(hu:∀op∈u,op.g=p/\op.act.low B'/\(op.act≠.mark .disable/\op.act≠.mark .enable)/\∀a,op.act.touch?=some a->Tk ρ1 a):PhT p q ρ1 ρ' B' (t++u):=by
 refine ⟨h.ne,fun said=>noRace_append (h.clean said) (fun op hop=>(hu op hop).1) (fun i a ha op hop b hb hc=>?_),fun i a ha hm=>?_,fun i a ha hm=>?_,?_,?_,fun op hop=>?_⟩
 .rcases h.kp i a ha hc.2.1 with k|⟨-,k⟩
  .exact k
  .exact absurd hc (hF.symm.no k ((hu op hop).2.2.2 b hb) said)
 .obtain ⟨x,hx,hxa⟩:=touch_of ha;rcases getElem?_append_cases hx with ⟨_,hx'⟩|⟨_,hxu⟩
  .exact (h.kp i a (by rw [touchAt_of hx'];exact hxa) hm).imp (·.app u) (fun k=>⟨g?_old k.1,k.2⟩)
  .have:=knows_own hx;rw [(hu x hxu).1] at this;exact .inl this
 .obtain ⟨x,hx,hxa⟩:=touch_of ha;rcases getElem?_append_cases hx with ⟨_,hx'⟩|⟨_,hxu⟩
  .exact (h.kq i a (by rw [touchAt_of hx'];exact hxa) hm).imp (·.app u) (fun k=>⟨g?_old k.1,k.2.mono l⟩)
  .exact .inr ⟨by simp [Trace.g?,hx,(hu x hxu).1],(hu x hxu).2.2.2 a hxa⟩
 .rw [bj t p u (fun op hop=>(hu op hop).2.2.1)];exact h.hp
 .rw [bj t q u (fun op hop=>(hu op hop).2.2.1)];exact h.hq
 .rcases Array.mem_append.1 hop with k|k
  .exact MemAct.low_mono hB (h.seen op k)
  .exact (hu op k).2.1
theorem xv {e:Event}(h:iI ρ e):MemAct.ofEvent e≠.mark .disable/\MemAct.ofEvent e≠.mark .enable:=by
 obtain ⟨loc,wr,sy⟩:=e;cases loc with
 |mark m=>cases (show RMk m from h)<;>exact ⟨by simp [MemAct.ofEvent],by simp [MemAct.ofEvent]⟩
 |goroutines=>exact h.elim
 |_=>cases wr<;>cases sy<;>exact ⟨by simp [MemAct.ofEvent],by simp [MemAct.ofEvent]⟩
theorem jI {V W:Wz}(S:bm ρ V W){es:Array Event}(hes:∀e∈es,iI ρ e)(g:Nat)(fn:FuncId)(pos:String):∀op∈MemOp.ofEvents g fn pos es,op.g=g/\op.act.low W.heap.size/\(op.act≠.mark .disable/\op.act≠.mark .enable)/\∀a,op.act.touch?=some a->Tk ρ a:=fun op hop=>by
 obtain ⟨e,he,rfl⟩:=Conc.mem_ofEvents hop;exact ⟨rfl,(jG S (hes e he)).2.2.2,xv (hes e he),fun a ha=>Gz (hes e he) ha⟩
theorem uj {op:MemOp}(h:cP B op.act):op.act.low B/\(op.act≠.mark .disable/\op.act≠.mark .enable)/\∀a,op.act.touch?=some a->Tk ρ a:=⟨h.low,h.still,fun a ha=>by rw [h.none] at ha;cases ha⟩
theorem PhT.mute (h:PhT p q ρ ρ' B t){g:Nat}(h1:g≠p)(h2:g≠q){fn:FuncId}{pos:String}{es:Array Event}(hm:∀e∈es,e.mute=true):PhT p q ρ ρ' B (t++MemOp.ofEvents g fn pos es):=by
 have hu:∀op∈MemOp.ofEvents g fn pos es,op.g=g/\op.act.touch?=none/\op.act.low B:=fun op hop=>by
  obtain ⟨e,he,rfl⟩:=Conc.mem_ofEvents hop;exact ⟨rfl,Conc.touch_mute (hm e he),Conc.low_mute (hm e he) B⟩
 generalize MemOp.ofEvents g fn pos es=u at hu;refine ⟨h.ne,fun said=>noRace_append (h.clean said) (fun op hop=>(hu op hop).1) (fun i a ha op hop b hb hc=>by rw [(hu op hop).2.1] at hb;cases hb),fun i a ha hm=>?_,fun i a ha hm=>?_,?_,?_,fun op hop=>?_⟩
 .obtain ⟨x,hx,hxa⟩:=touch_of ha;rcases getElem?_append_cases hx with ⟨_,hx'⟩|⟨_,hxu⟩
  .exact (h.kp i a (by rw [touchAt_of hx'];exact hxa) hm).imp (·.app u) (fun k=>⟨g?_old k.1,k.2⟩)
  .rw [(hu x hxu).2.1] at hxa;cases hxa
 .obtain ⟨x,hx,hxa⟩:=touch_of ha;rcases getElem?_append_cases hx with ⟨_,hx'⟩|⟨_,hxu⟩
  .exact (h.kq i a (by rw [touchAt_of hx'];exact hxa) hm).imp (·.app u) (fun k=>⟨g?_old k.1,k.2⟩)
  .rw [(hu x hxu).2.1] at hxa;cases hxa
 .rw [Conc.Deaf_other t h1 u (fun op hop=>(hu op hop).1)];exact h.hp
 .rw [Conc.Deaf_other t h2 u (fun op hop=>(hu op hop).1)];exact h.hq
 .rcases Array.mem_append.1 hop with k|k
  .exact h.seen op k
  .exact (hu op k).2.2
theorem PhT.start (h:Past gR B t){k:Nat}(hk:k≠0)(hd:Deaf t k=0){x y:MemOp}(hx:x.g=0/\x.act=.go k)(hy:y.g=k/\y.act=.start):PhT 0 k ρ ρ' B (t++#[x,y]):=by
 have hn:∀op∈(#[x,y]:Trace),op.act.touch?=none/\op.act.low B/\(op.act≠.mark .disable/\op.act≠.mark .enable):=fun op hop=>by
  simp at hop;rcases hop with rfl|rfl
  .rw [hx.2];exact ⟨rfl,trivial,by simp,by simp⟩
  .rw [hy.2];exact ⟨rfl,trivial,by simp,by simp⟩
 have e:t++#[x,y]=(t++#[x])++#[y]:=by apply Array.ext';simp
 have old:∀i a,touchAt (t++#[x,y]) i=some a->touchAt t i=some a:=fun i a ha=>by
  obtain ⟨z,hz,hza⟩:=touch_of ha;rcases getElem?_append_cases hz with ⟨_,hz'⟩|⟨_,hzu⟩
  .rw [touchAt_of hz'];exact hza
  .rw [(hn z hzu).1] at hza;cases hza
 have known:∀i a,touchAt t i=some a->a.loc.isMemory=true->Knows t 0 i:=fun i a ha hm=>(h.known i a ha hm).resolve_right (fun k=>k.1)
 refine ⟨hk.symm,fun said=>?_,fun i a ha hm=>.inl ((known i a (old i a ha) hm).app _),fun i a ha hm=>.inl (ConcN.fork_knows hx hy h.hears hd (known i a (old i a ha) hm)),?_,?_,fun op hop=>?_⟩
 .rw [e];refine noRace_append (g:=k) (noRace_append (g:=0) (h.clean said) (fun op hop=>by simp at hop;subst hop;exact hx.1) (fun i a _ op hop b hb _=>?_)) (fun op hop=>by simp at hop;subst hop;exact hy.1) (fun i a _ op hop b hb _=>?_)
  .simp at hop;subst hop;rw [hx.2] at hb;cases hb
  .simp at hop;subst hop;rw [hy.2] at hb;cases hb
 .rw [bj t 0 _ (fun op hop=>(hn op hop).2.2)];exact h.hears
 .rw [bj t k _ (fun op hop=>(hn op hop).2.2)];exact hd
 .rcases Array.mem_append.1 hop with k|k
  .exact h.seen op k
  .exact (hn op k).2.1
structure PhC (c pc:Nat)(ρ':Ren)(B:Nat)(t:Trace):Prop where
 clean:∀said,¬Race said t
 k0:∀i a,touchAt t i=some a->a.loc.isMemory=true->Knows t 0 i\/(Before t i pc/\Tk ρ' a)
 act:t.act? pc=some (.close c)
 heard:t.heard pc
 h0:Deaf t 0=0
 seen:∀op∈t,op.act.low B
variable {c pc:Nat}
theorem ni {i:Nat}(h:t.heard i):(t++u).heard i:=by
 obtain ⟨g,h1,h2⟩:=h;have hi:i<t.size:=by
  unfold Trace.g? at h1;obtain ⟨x,hx,_⟩:=Option.map_eq_some_iff.1 h1;exact lt_size_of_getElem? hx
 exact ⟨g,g?_old h1,by rw [Conc.deaf_old (by omega)];exact h2⟩
theorem act?_keep {i:Nat}{a:MemAct}(h:t.act? i=some a):(t++u).act? i=some a:=by rw [Conc.act?_old (Conc.lt_of_act? h)];exact h
theorem PhT.close (h:PhT 0 q ρ ρ' B t){y:MemOp}(hy:y.g=q/\y.act=.close c)(hc:c<B):PhC c t.size ρ' B (t++#[y]):=by
 have hlast:(t++#[y])[t.size]?=some y:=by rw [Array.getElem?_append_right (lR _)];simp
 refine ⟨fun said=>noRace_append (g:=q) (h.clean said) (fun op hop=>by simp at hop;subst hop;exact hy.1) (fun i a _ op hop b hb _=>by simp at hop;subst hop;rw [hy.2] at hb;cases hb),fun i a ha hm=>?_,by rw [Conc.act?_of hlast,hy.2],⟨q,by simp [Trace.g?,hy.1],by rw [Conc.deaf_old (lR _)];exact h.hq⟩,?_,fun op hop=>?_⟩
 .obtain ⟨x,hx,hxa⟩:=touch_of ha;rcases getElem?_append_cases hx with ⟨hi,hx'⟩|⟨_,hxu⟩
  .rcases h.kp i a (by rw [touchAt_of hx'];exact hxa) hm with k|⟨k1,k2⟩
   .exact .inl (k.app _)
   .refine .inr ⟨.inr (Conc.hb_po hi hx hlast ?_),k2⟩;have:x.g=q:=by simpa [Trace.g?,hx'] using k1
    rw [this,hy.1]
  .simp at hxu;subst hxu;rw [hy.2] at hxa;cases hxa
 .rw [bj t 0 _ (fun op hop=>by simp at hop;subst hop;rw [hy.2];exact ⟨by simp,by simp⟩)];exact h.hp
 .rcases Array.mem_append.1 hop with k|k
  .exact h.seen op k
  .simp at k;subst k;rw [hy.2];exact hc
theorem PhC.app (h:PhC c pc ρ' B t)(hF:Far ρ1 ρ')(hB:B<=B')(hu:∀op∈u,op.g=0/\op.act.low B'/\(op.act≠.mark .disable/\op.act≠.mark .enable)/\∀a,op.act.touch?=some a->Tk ρ1 a):PhC c pc ρ' B' (t++u):=by
 refine ⟨fun said=>noRace_append (h.clean said) (fun op hop=>(hu op hop).1) (fun i a ha op hop b hb hc=>?_),fun i a ha hm=>?_,act?_keep h.act,ni h.heard,?_,fun op hop=>?_⟩
 .rcases h.k0 i a ha hc.2.1 with k|⟨-,k⟩
  .exact k
  .exact absurd hc (hF.symm.no k ((hu op hop).2.2.2 b hb) said)
 .obtain ⟨x,hx,hxa⟩:=touch_of ha;rcases getElem?_append_cases hx with ⟨_,hx'⟩|⟨_,hxu⟩
  .exact (h.k0 i a (by rw [touchAt_of hx'];exact hxa) hm).imp (·.app u) (fun k=>⟨k.1.app u,k.2⟩)
  .have:=knows_own hx;rw [(hu x hxu).1] at this;exact .inl this
 .rw [bj t 0 u (fun op hop=>(hu op hop).2.2.1)];exact h.h0
 .rcases Array.mem_append.1 hop with k|k
  .exact MemAct.low_mono hB (h.seen op k)
  .exact (hu op k).2.1
theorem PhC.mute (h:PhC c pc ρ' B t){g:Nat}(h1:g≠0){fn:FuncId}{pos:String}{es:Array Event}(hm:∀e∈es,e.mute=true):PhC c pc ρ' B (t++MemOp.ofEvents g fn pos es):=by
 have hu:∀op∈MemOp.ofEvents g fn pos es,op.g=g/\op.act.touch?=none/\op.act.low B:=fun op hop=>by
  obtain ⟨e,he,rfl⟩:=Conc.mem_ofEvents hop;exact ⟨rfl,Conc.touch_mute (hm e he),Conc.low_mute (hm e he) B⟩
 generalize MemOp.ofEvents g fn pos es=u at hu;refine ⟨fun said=>noRace_append (h.clean said) (fun op hop=>(hu op hop).1) (fun i a ha op hop b hb hc=>by rw [(hu op hop).2.1] at hb;cases hb),fun i a ha hm=>?_,act?_keep h.act,ni h.heard,?_,fun op hop=>?_⟩
 .obtain ⟨x,hx,hxa⟩:=touch_of ha;rcases getElem?_append_cases hx with ⟨_,hx'⟩|⟨_,hxu⟩
  .exact (h.k0 i a (by rw [touchAt_of hx'];exact hxa) hm).imp (·.app u) (fun k=>⟨k.1.app u,k.2⟩)
  .rw [(hu x hxu).2.1] at hxa;cases hxa
 .rw [Conc.Deaf_other t h1 u (fun op hop=>(hu op hop).1)];exact h.h0
 .rcases Array.mem_append.1 hop with k|k
  .exact h.seen op k
  .exact (hu op k).2.2
theorem PhC.done (h:PhC c pc ρ' B t){y:MemOp}(hy:y.g=0/\y.act=.recvClosed c)(hc:c<B):Past gR B (t++#[y]):=by
 have hlast:(t++#[y])[t.size]?=some y:=by rw [Array.getElem?_append_right (lR _)];simp
 have hh:(t++#[y]).heard t.size:=⟨0,by simp [Trace.g?,hy.1],by rw [Conc.deaf_old (lR _)];exact h.h0⟩;have edge:HappensBefore (t++#[y]) pc t.size:=.single (.inr ⟨.closed (act?_keep h.act) (by rw [Conc.act?_of hlast,hy.2]),ni h.heard,hh⟩);have known:∀i a,touchAt (t++#[y]) i=some a->a.loc.isMemory=true->Knows (t++#[y]) 0 i:=fun i a ha hm=>by
  obtain ⟨x,hx,hxa⟩:=touch_of ha;rcases getElem?_append_cases hx with ⟨_,hx'⟩|⟨_,hxu⟩
  .rcases h.k0 i a (by rw [touchAt_of hx'];exact hxa) hm with k|⟨k,-⟩
   .exact k.app _
   .exact ⟨t.size,y,hlast,hy.1,(k.app _).trans (.inr edge)⟩
  .simp at hxu;subst hxu;rw [hy.2] at hxa;cases hxa
 refine ⟨fun said=>noRace_append (g:=0) (h.clean said) (fun op hop=>by simp at hop;subst hop;exact hy.1) (fun i a _ op hop b hb _=>by simp at hop;subst hop;rw [hy.2] at hb;cases hb),fun i a ha hm=>.inl (known i a ha hm),fun i g hg hne hcn=>?_,?_,fun op hop=>?_⟩
 .obtain ⟨a,ha,hm,-⟩:=hcn;obtain ⟨j,z,hz,hzg,hb⟩:=known i a ha hm;refine ⟨j,by unfold Trace.g?;rw [hz];exact congrArg some hzg,?_⟩;rcases hb with rfl|hb
  .rw [Trace.g?,hz] at hg;exact absurd (by simpa [hzg] using hg.symm) hne
  .exact hb
 .rw [bj t 0 _ (fun op hop=>by simp at hop;subst hop;rw [hy.2];exact ⟨by simp,by simp⟩)];exact h.h0
 .rcases Array.mem_append.1 hop with k|k
  .exact h.seen op k
  .simp at k;subst k;rw [hy.2];exact hc
end
end
section
open Go
open Go.Conc (crowd Past EvL Deaf QuitsD woken awake crowd_pick runT_crowd_go rcase scase parked ph)
theorem xx (p:Wx)(g:Wj)(h:g.callers≠[])(w:Wz):stepG p true g w=stepG p false g w:=by
 obtain ⟨fr,cs,st,dy,of⟩:=g;cases cs with
 |nil=>exact absurd rfl h
 |cons c cs=>
  have e1:∀ (d:Option Dying) (v:Wq) (u:Wz),doReturn p true fr (c::cs) d v u=doReturn p false fr (c::cs) d v u:=fun d v u=>rfl
  have e2:∀ (d:Option Dying),unwind p true fr (c::cs) d w=unwind p false fr (c::cs) d w:=fun d=>by
   unfold unwind;simp only [e1]
  have e3:∀ (d:Option Dying),stepG.exec p true true fr (c::cs) d w=stepG.exec p false true fr (c::cs) d w:=fun d=>by
   unfold stepG.exec;simp only [e1]
  simp only [stepG,e2,e3]
def Flat (v:Wq):Prop:=∀ρ,RV ρ v v/\∀v',RV ρ v v'->v'=v
structure Side (P:Wx) [Two P](X:List Wv×List Wv)(ρ:Ren)(h g:Wj)(V W:Wz)(cV c:Nat)(L:List Wq):Prop where
 go:RGo P ρ X h g
 sim:bm ρ V W
 gid:GId P ρ
 ext:fH P ρ.F
 calm:ρ.F fS=false/\ρ.F lq=false
 loose:ρ.loose=true/\ρ.wide=true
 ch:ρ.ch cV
 pair:ρ cV c
 row:∃n b s q tm,V.heap[cV]?=some (.chan n b true s q tm)/\b.toList=L
structure Snd (P:Wx) [Two P](X:List Wv×List Wv)(ρ:Ren)(h g:Wj)(V W:Wz)(cs c:Nat)(L:List Wq):Prop where
 go:RGo P ρ X h g
 sim:bm ρ V W
 gid:GId P ρ
 ext:fH P ρ.F
 calm:ρ.F Fz=false/\ρ.F lq=false
 unmk:∀f,¬Mk ρ.F f=true
 loose:ρ.loose=true/\ρ.wide=false
 ch:∀x,ρ.ch x↔x=cs
 pair:ρ cs c
 row:∃n b s q tm,V.heap[cs]?=some (.chan n b false s q tm)/\b.toList=L
 only:∀ (a n:Nat) b s q tm,V.heap[a]?=some (.chan n b false s q tm)->a=cs
section
variable {P:Wx} [Two P] {X:List Wv×List Wv} {ρ:Ren} {h g h':Wj} {V V' W:Wz} {cV c:Nat} {L:List Wq}
omit [Two P] in
theorem RFs.len1 {ρ:Ren}{X:List Wv×List Wv}{l l':List Wv}(h:RFs P ρ X l l'):X.1.length<=l.length:=by
 induction h with
 |base=>exact lR _
 |cons _ _ _ ih=>simp only [lC];omega
theorem nj (hZ:bu P)(hN:bI P)(m:Bool)(hgo:RGo P ρ X h g)(hb:Base X h.frame g.callers)(S:bm ρ V W)(hI:GId P ρ)(hE:fH P ρ.F)(d:Nat)(hm:stepG P.alt m h (V.on W.tape d)=stepG P.alt true h (V.on W.tape d))(hl:LS P.alt h (V.on W.tape d) h' V')(hmk:∀f a' fr' cs' u' es',Mk ρ.F f=true->stepG P m g (W.at d)=.go {frame:=Frame.enter P f a' .normal,callers:=fr'::cs',status:=.running,dying:=none} u' es'->False):
  stepG P m h (V.on W.tape d)=stepG P.alt true h (V.on W.tape d)/\cN P ρ X (V.on W.tape d) (W.at d) (stepG P.alt true h (V.on W.tape d)) (stepG P m g (W.at d)):=by
 have S':bm ρ (V.on W.tape d) (W.at d):=⟨S.obj,S.fix,S.chan,S.os,S.pin⟩;have sf:=iN hZ hE hN hI m hgo hb S' (fun i=>rfl);rcases sf.rel with ⟨-,hlo⟩|⟨halt,hst⟩|⟨f,_,_,_,_,_,_,_,_,_,_,_,A⟩
 .exfalso;have hlo:Lost (stepG P.alt m h (V.on W.tape d)):=hlo;rw [hm] at hlo;cases hl with
  |go e hr2 hd2=>
   rw [e] at hlo;obtain ⟨⟨_,_,e2,-⟩,-⟩:=hlo;rw [hd2] at e2;cases e2
  |comm e _=>rw [e] at hlo;exact hlo.elim
 .have halt:stepG P.alt m h (V.on W.tape d)=stepG P m h (V.on W.tape d):=halt;have hst:cN P ρ X (V.on W.tape d) (W.at d) (stepG P m h (V.on W.tape d)) (stepG P m g (W.at d)):=hst;rw [<-halt,hm] at hst;exact ⟨halt.symm.trans hm,hst⟩
 .exact (hmk f _ _ _ _ _ A.mark A.there).elim
theorem mA (hZ:bu P)(hN:bI P)(m:Bool)(hgo:RGo P ρ X h g)(hb:Base X h.frame g.callers)(S:bm ρ V W)(hI:GId P ρ)(hE:fH P ρ.F)(hmk:∀f,¬Mk ρ.F f=true)(d:Nat)(hm:stepG P.alt m h (V.on W.tape d)=stepG P.alt true h (V.on W.tape d))(hl:LS P.alt h (V.on W.tape d) h' V'):
  stepG P m h (V.on W.tape d)=stepG P.alt true h (V.on W.tape d)/\cN P ρ X (V.on W.tape d) (W.at d) (stepG P.alt true h (V.on W.tape d)) (stepG P m g (W.at d)):=
 nj hZ hN m hgo hb S hI hE d hm hl (fun f _ _ _ _ _ h _=>hmk f h)
omit [Two P] in
theorem bm.other (S:bm ρ V W){W':Wz}{x0 b0:Nat}(h0:ρ x0 b0)(hos:W'.os=W.os)(hs:∀x b,ρ x b->b≠b0->W'.heap[b]?=W.heap[b]?)(hc:∀o o',V.heap[x0]?=some o->W.heap[b0]?=some o'->RO ρ o o'->∃o2,W'.heap[b0]?=some o2/\RO ρ o o2)(hnc:∀c e z,V.heap[x0]?≠some (.cells c e z)):bm ρ V W':=by
 refine ⟨fun a b hab=>?_,S.fix,S.chan,hos.trans S.os,fun hb a c0 hp=>?_⟩
 rotate_left
 .obtain ⟨b,hab,hP⟩:=S.pin hb a c0 hp;refine ⟨b,hab,hP.same rfl (hs a b hab (fun e=>?_))⟩;subst e;obtain rfl:=ρ.inj _ _ _ hab h0;obtain ⟨c,t,z,_,_,k1,-⟩:=hP;exact hnc c t z k1
 obtain ⟨o,o',h1,h2,h3⟩:=S.obj a b hab;by_cases hb:b=b0
 .subst hb;obtain rfl:=ρ.inj _ _ _ hab h0;obtain ⟨o2,k1,k2⟩:=hc o o' h1 h2 h3;exact ⟨o,o2,h1,k1,k2⟩
 .exact ⟨o,o',h1,by rw [hs a b hab hb];exact h2,h3⟩
def j7 (W:Wz)(c:Nat)(n:Nat)(b:List Wq)(cl:Bool)(s q:Nat)(tm:Bool):Prop:=∃a,W.heap[c]?=some (.chan n a cl s q tm)/\a.toList=b
theorem Side.rowW (S:Side P X ρ h g V W cV c L):∃n b cl s q tm,j7 W c n b cl s q tm:=by
 obtain ⟨n,b,s,q,tm,h1,h2⟩:=S.row;obtain ⟨o,o',k1,k2,k3⟩:=S.sim.obj _ _ S.pair;rw [h1] at k1;cases k1;cases k3 with
 |chan=>exact ⟨_,_,_,_,_,_,_,k2,rfl⟩
theorem Side.other (S:Side P X ρ h g V W cV c L){W':Wz}(hos:W'.os=W.os)(hs:∀x b,ρ x b->b≠c->W'.heap[b]?=W.heap[b]?){n n':Nat}{b b':List Wq}{cl cl':Bool}{s q s' q':Nat}{tm:Bool}(h1:j7 W c n b cl s q tm)(h2:j7 W' c n' b' cl' s' q' tm):Side P X ρ h g V W' cV c L:=by
 obtain ⟨a,h1,-⟩:=h1;obtain ⟨a',h2,-⟩:=h2;refine ⟨S.go,S.sim.other S.pair hos hs (fun o o' k1 k2 k3=>?_) (fun _ _ _ k=>by obtain ⟨_,_,_,_,_,k2,-⟩:=S.row;rw [k2] at k;cases k),S.gid,S.ext,S.calm,S.loose,S.ch,S.pair,S.row⟩;rw [h1] at k2;cases k2;refine ⟨_,h2,?_⟩;cases k3 with
 |chan=>exact .chan _ _ _ _ _ _ _ _ _ (.inl S.loose.1) (.inl S.loose.2)
 |dead=>obtain ⟨_,_,_,_,_,k,-⟩:=S.row;rw [k] at k1;cases k1
theorem Snd.rowW {cs:Nat}(S:Snd P X ρ h g V W cs c L):∃n b s q tm,j7 W c n b false s q tm:=by
 obtain ⟨n,b,s,q,tm,h1,h2⟩:=S.row;obtain ⟨o,o',k1,k2,k3⟩:=S.sim.obj _ _ S.pair;rw [h1] at k1;cases k1;cases k3 with
 |chan _ _ _ cl' _ _ _ _ _ hb hc=>
  obtain rfl:=hc.resolve_left (by rw [S.loose.2];exact fun h=>by cases h);exact ⟨_,_,_,_,_,_,k2,rfl⟩
theorem Snd.other {cs:Nat}(S:Snd P X ρ h g V W cs c L){W':Wz}(hos:W'.os=W.os)(hs:∀x b,ρ x b->b≠c->W'.heap[b]?=W.heap[b]?){n n':Nat}{b b':List Wq}{s q s' q':Nat}{tm:Bool}(h1:j7 W c n b false s q tm)(h2:j7 W' c n' b' false s' q' tm):Snd P X ρ h g V W' cs c L:=by
 obtain ⟨a,h1,-⟩:=h1;obtain ⟨a',h2,-⟩:=h2;refine ⟨S.go,S.sim.other S.pair hos hs (fun o o' k1 k2 k3=>?_) (fun _ _ _ k=>by obtain ⟨_,_,_,_,_,k2,-⟩:=S.row;rw [k2] at k;cases k),S.gid,S.ext,S.calm,S.unmk,S.loose,S.ch,S.pair,S.row,S.only⟩;rw [h1] at k2;cases k2;refine ⟨_,h2,?_⟩;cases k3 with
 |chan _ _ _ _ _ _ _ _ _ hb hc=>exact .chan _ _ _ _ _ _ _ _ _ (.inl S.loose.1) hc
 |dead=>obtain ⟨_,_,_,_,_,k,-⟩:=S.row;rw [k] at k1;cases k1
theorem Side.stays (S:Side P X ρ h g V W cV c L){W':Wz}(hos:W'.os=W.os)(hs:∀x b,ρ x b->b≠c->W'.heap[b]?=W.heap[b]?)(hc:W'.heap[c]?=W.heap[c]?):Side P X ρ h g V W' cV c L:=by
 obtain ⟨n,b,cl,s,q,tm,a,h1,h2⟩:=S.rowW;exact S.other hos hs ⟨a,h1,h2⟩ ⟨a,hc.trans h1,h2⟩
theorem Snd.stays {cs:Nat}(S:Snd P X ρ h g V W cs c L){W':Wz}(hos:W'.os=W.os)(hs:∀x b,ρ x b->b≠c->W'.heap[b]?=W.heap[b]?)(hc:W'.heap[c]?=W.heap[c]?):Snd P X ρ h g V W' cs c L:=by
 obtain ⟨n,b,s,q,tm,a,h1,h2⟩:=S.rowW;exact S.other hos hs ⟨a,h1,h2⟩ ⟨a,hc.trans h1,h2⟩
end
end
section
open Go
open Go.Conc (crowd Past EvL Deaf QuitsD woken awake crowd_pick runT_crowd_go rcase scase parked ph)
section
variable {P:Wx} [Two P] {X:List Wv×List Wv} {ρ:Ren} {h1 g1 h:Wj} {V1 V W W':Wz} {cV c:Nat} {L:List Wq} {cc:CommCase} {v z:Wq} {sh:CommShape}
theorem Side.case_ (S:Side P X ρ h1 g1 V1 W cV c L)(hrc:RC ρ cc (rcase c z)):cc.send=none/\(cc.chan=.chan (some cV)\/cc.chan=.tuple #[]):=by
 refine ⟨?_,?_⟩
 .rcases hrc.send with ⟨k,-⟩|⟨_,_,-,k,-⟩
  .exact k
  .cases k
 .have:=hrc.chan;simp only [rcase] at this;generalize cc.chan=x at this;cases this with
  |chan k=>
   cases k with
   |some k=>exact .inl (by rw [ρ.inj _ _ _ k S.pair])
  |dead=>exact .inr rfl
theorem Side.take (S:Side P X ρ h1 g1 V1 W cV c (v::L))(hrc:RC ρ cc (rcase c z))(hsh:∃ok,sh=.recv ok)(hlc:LC P.alt h1 cc sh V1 h V)(hv:Flat v)(hos:W'.os=W.os)(hs:∀b,b≠c->W'.heap[b]?=W.heap[b]?){n n':Nat}{b b':List Wq}{cl cl':Bool}{s q s' q':Nat}{tm:Bool}(r1:j7 W c n b cl s q tm)(r2:j7 W' c n' b' cl' s' q' tm):
  Side P X ρ h (g1.finishComm P #[rcase c z] sh 0 v true) V W' cV c L:=by
 obtain ⟨hsd,hch⟩:=S.case_ hrc;obtain ⟨n0,b0,s0,q0,tm0,e1,e2⟩:=S.row;have hhs:(cc.send.isSome=true/\sh=.send)\/(cc.send=none/\∃ok,sh=.recv ok):=.inr ⟨hsd,hsh⟩;have S2:=S.other hos (fun _ b _ hb=>hs b hb) r1 r2;cases hlc with
 |send k1 k2 k3 k4=>rw [hsd] at k2;cases k2
 |dead k1 k2 k3=>rw [hsd] at k2;cases k2
 | @shut r cap sent rcvd tm k1 k2 k3=>
  rw [k1] at hch;rcases hch with hch|hch
  .cases hch;rw [e1] at k3;cases k3;simp at e2
  .cases hch
 | @recv r cap sent rcvd buf cl tm k1 k2 k3 k4=>
  rw [k1] at hch;rcases hch with hch|hch
  .cases hch;rw [e1] at k3;cases k3;have hb0:b0.getD 0 Wy=v:=by
    rw [gD,<-gT,e2];rfl
   have hbx:(b0.extract 1 b0.size).toList=L:=by
    have hl:b0.toList.length=b0.size:=lY;rw [Array.toList_extract,e2] at *;simp at hl ⊢;rw [<-hl];simp
   have hlt:=(S.sim.lt S.pair).1;refine ⟨?_,?_,S.gid,S.ext,S.calm,S.loose,S.ch,S.pair,⟨_,_,_,_,_,sS hlt,hbx⟩⟩
   .rw [hb0];exact dn S.go hrc sh hhs (hv ρ).1 true
   .obtain ⟨a',r2,-⟩:=r2;have hput:=S2.sim.put S.pair (o:=.chan n0 (b0.extract 1 b0.size) true s0 (q0+1) tm0) (o':=.chan n' a' cl' s' q' _) (.chan _ _ _ _ _ _ _ _ _ (.inl S.loose.1) (.inl S.loose.2)) (fun hold=>by
     obtain ⟨o,f1,f2⟩:=S.sim.fix _ hold;rw [e1] at f1;cases f1;exact f2) (fun _=>rfl) (fun _ _ _ k=>by rw [e1] at k;cases k)
    have htm:tm0=tm:=by
     obtain ⟨o,o',f1,f2,f3⟩:=S.sim.obj _ _ S.pair;obtain ⟨a,r1,-⟩:=r1;rw [e1] at f1;cases f1;rw [r1] at f2;cases f2;cases f3;rfl
    subst htm;have hlt':c<W'.heap.size:=(eS r2).1;have e3:W'.heap.setIfInBounds c (.chan n' a' cl' s' q' tm0)=W'.heap:=by
     apply Array.ext_getElem?;intro j;by_cases hj:c=j
     .subst hj;rw [sS hlt',r2]
     .rw [sN hj]
    rw [e3] at hput;exact hput
  .cases hch
theorem Side.nothing (S:Side P X ρ h1 g1 V1 W cV c [])(hrc:RC ρ cc (rcase c z))(hsh:∃ok,sh=.recv ok)(hlc:LC P.alt h1 cc sh V1 h V):Side P X ρ h (g1.finishComm P #[rcase c z] sh 0 z false) V W cV c []:=by
 obtain ⟨hsd,hch⟩:=S.case_ hrc;obtain ⟨n0,b0,s0,q0,tm0,e1,e2⟩:=S.row;have hhs:(cc.send.isSome=true/\sh=.send)\/(cc.send=none/\∃ok,sh=.recv ok):=.inr ⟨hsd,hsh⟩;cases hlc with
 |send k1 k2 k3 k4=>rw [hsd] at k2;cases k2
 |dead k1 k2 k3=>rw [hsd] at k2;cases k2
 |recv k1 k2 k3 k4=>
  rw [k1] at hch;rcases hch with hch|hch
  .cases hch;rw [e1] at k3;cases k3;have:b0=#[]:=Array.toList_inj.1 (by simpa using e2);rw [this] at k4;simp at k4
  .cases hch
 |shut k1 k2 k3=>exact ⟨dn S.go hrc sh hhs hrc.zero false,S.sim,S.gid,S.ext,S.calm,S.loose,S.ch,S.pair,S.row⟩
end
section
variable {P:Wx} [Two P] {X:List Wv×List Wv} {ρ:Ren} {h1 g1 h:Wj} {V1 V W W':Wz} {cs c:Nat} {L:List Wq} {cc:CommCase} {v z:Wq}
theorem Snd.case_ (S:Snd P X ρ h1 g1 V1 W cs c L)(hrc:RC ρ cc (scase c v z)):(∃v0,cc.send=some v0/\RV ρ v0 v)/\(cc.chan=.chan (some cs)\/cc.chan=.tuple #[]):=by
 refine ⟨?_,?_⟩
 .rcases hrc.send with ⟨-,k⟩|⟨v0,v1,k,k2,k3⟩
  .cases k
  .cases k2;exact ⟨v0,k,k3⟩
 .have:=hrc.chan;simp only [scase] at this;generalize cc.chan=x at this;cases this with
  |chan k=>
   cases k with
   |some k=>exact .inl (by rw [ρ.inj _ _ _ k S.pair])
  |dead=>exact .inr rfl
theorem Snd.push (S:Snd P X ρ h1 g1 V1 W cs c L)(hrc:RC ρ cc (scase c v z))(hlc:LC P.alt h1 cc .send V1 h V)(hos:W'.os=W.os)(hs:∀b,b≠c->W'.heap[b]?=W.heap[b]?){n n':Nat}{b b':List Wq}{s q s' q':Nat}{tm:Bool}(r1:j7 W c n b false s q tm)(r2:j7 W' c n' b' false s' q' tm):
  ∃v0,RV ρ v0 v/\Snd P X ρ h (g1.finishComm P #[scase c v z] .send 0 Wy false) V W' cs c (L++[v0]):=by
 obtain ⟨⟨v0,hsd,hrv⟩,hch⟩:=S.case_ hrc;obtain ⟨n0,b0,s0,q0,tm0,e1,e2⟩:=S.row;have hhs:(cc.send.isSome=true/\CommShape.send=.send)\/(cc.send=.none/\∃ok,CommShape.send=.recv ok):=.inl ⟨by rw [hsd];rfl,rfl⟩;have S2:=S.other hos (fun _ b _ hb=>hs b hb) r1 r2;cases hlc with
 |recv k1 k2 k3 k4=>rw [hsd] at k2;cases k2
 |shut k1 k2 k3=>rw [hsd] at k2;cases k2
 |dead k1 k2 k3=>
  rw [k1] at hch;rcases hch with hch|hch
  .cases hch;rw [e1] at k3;cases k3
  .cases hch
 | @send r cap sent rcvd buf tm1 v1 k1 k2 k3 k4=>
  rw [hsd] at k2;cases k2;rw [k1] at hch;rcases hch with hch|hch
  .cases hch;rw [e1] at k3;cases k3;have hlt:=(S.sim.lt S.pair).1;refine ⟨v0,hrv,?_,?_,S.gid,S.ext,S.calm,S.unmk,S.loose,S.ch,S.pair,⟨_,_,_,_,_,sS hlt,by simp [e2]⟩,fun a n b s q tm ho=>?_⟩
   .exact dn S.go hrc .send hhs cH false
   .obtain ⟨a',r2,-⟩:=r2;have htm:tm0=tm:=by
     obtain ⟨o,o',f1,f2,f3⟩:=S.sim.obj _ _ S.pair;obtain ⟨a,r1,-⟩:=r1;rw [e1] at f1;cases f1;rw [r1] at f2;cases f2;cases f3;rfl
    subst htm;have hput:=S2.sim.put S.pair (o:=.chan n0 (b0.push v0) false (s0+1) q0 tm0) (o':=.chan n' a' false s' q' tm0) (.chan _ _ _ _ _ _ _ _ _ (.inl S.loose.1) (.inr rfl)) (fun hold=>by
     obtain ⟨o,f1,f2⟩:=S.sim.fix _ hold;rw [e1] at f1;cases f1;exact f2) (fun _=>rfl) (fun _ _ _ k=>by rw [e1] at k;cases k)
    have hlt':c<W'.heap.size:=(eS r2).1;have e3:W'.heap.setIfInBounds c (.chan n' a' false s' q' tm0)=W'.heap:=by
     apply Array.ext_getElem?;intro j;by_cases hj:c=j
     .subst hj;rw [sS hlt',r2]
     .rw [sN hj]
    rw [e3] at hput;exact hput
   .by_cases ha:cs=a
    .exact ha.symm
    .simp only [sN ha] at ho;exact S.only a n b s q tm ho
  .cases hch
end
structure PhD (P:Wx) where
 T:Wj->Wz->Prop
 Nr:Wj->Wz->Prop
 Tr:Wj->Wz->Prop
 Ns:Wj->Wz->Prop
 Ts:Wj->Wz->Prop
 h0:Wj
 V0:Wz
 k:Nat
 c:Nat
 cV:Nat
 cr:Nat
 cs:Nat
 X:List Wv×List Wv
 Bs:List Wv
 L:List Wq
 R0:Nat->Nat->Prop
 Fp:FuncId->Bool
 Fr:FuncId->Bool
 bo:Nat
 U:Outer
variable {P:Wx} [Two P] (D:PhD P)
def dN (W:Wz)(c n:Nat)(b:Array Wq)(s q:Nat)(tm:Bool):Wz:=W.setChan c n b true s q tm
structure zB (D:PhD P)(ρ:Ren)(V W:Wz):Prop where
 base:(∀a b,D.R0 a b->ρ a b)/\ρ.F=D.Fp
 all:∀a b o,ρ a b->V.heap[a]?=some o->o.isChan=true->ρ.ch a
 rest:∀a b,ρ.ch a->ρ a b->a≠D.cV->∃n s q tm n' s' q',V.heap[a]?=some (.chan n #[] true s q tm)/\W.heap[b]?=some (.chan n' #[] true s' q' tm)
structure vC (P:Wx) [Two P](D:PhD P)(Post:Wq->Wz->Prop):Prop where
 zero:bu P
 count:bI P
 mark:∀f,Mk D.Fp f=true->∀fn b,P.funcs[f]?=some fn->fn.body=some b->aA P D.Fr b=false
 k0:D.k≠0
 flat:∀v∈D.L,Flat v
 deep:2<=D.X.1.length
 leafT:∀h V,D.T h V->h.callers.length<=1
 nr:∀h V,D.Nr h V->NB [trap P.alt] h
 tr:∀h V,D.Tr h V->NB [trap P.alt] h/\(∀n b s q tm,V.heap[D.cr]?=some (.chan n b true s q tm)->b.toList=[])/\∀τ d,∃h1 cc s V1 es h' V',stepG P.alt true h (V.on τ d)=.comm h1 #[cc] true s V1 es/\LC P.alt h1 cc s V1 h' V'
 ns:∀h V,D.Ns h V->NB [trap P.alt] h
 bs:D.Bs≠[]
 grow:∀h V τ d h' V',D.Ns h V->LS P.alt h (V.on τ d) h' V'->∀n b cl s q tm,V.heap[D.cs]?=some (.chan n b cl s q tm)->∃n' b' cl' s' q' tm',V'.heap[D.cs]?=some (.chan n' b' cl' s' q' tm')/\((b.toList <+:b'.toList/\(cl=true->cl'=true))\/cl'=true)
 ts:∀h V,D.Ts h V->∀n b cl s q tm,V.heap[D.cs]?=some (.chan n b cl s q tm)->cl=false/\b.toList=D.L
 close:∀h V ρ g W,D.Ts h V->Snd P ([trap P.alt],D.Bs) ρ h g V W D.cs D.c D.L->∀n b s q tm,W.heap[D.c]?=some (.chan n b false s q tm)->∃g',mayWake P g=true/\g'.status=.running/\stepG P false g W=.go g' (dN W D.c n b s q tm) #[⟨.obj D.c,false,true⟩,⟨.obj D.c,true,true⟩]/\∃m,QuitsD P m 0 g'
 fin:∀ρ h g V W n s q tm gs sl t qs,Side P D.X ρ h g V W D.cV D.c []->zB D ρ V W->Kp D.U W/\Off D.U ρ->W.heap[D.c]?=some (.chan n #[] true s q tm)->LSs P.alt D.T D.h0 D.V0 h V->gs[0]?=some g->Lv P (fun _=>False) t gs qs->Past gR W.heap.size t->Fin P Post gs W sl t
section
variable {D} {Post:Wq->Wz->Prop}
theorem vC.pre (O:vC P D Post){h:Wj}{V:Wz}(hD:Dem P.alt D.Ns D.Ts h V):∀n b cl s q tm,V.heap[D.cs]?=some (.chan n b cl s q tm)->cl=false/\b.toList <+:D.L:=by
 induction hD with
 |stop hT=>
  intro n b cl s q tm hr;obtain ⟨h1,h2⟩:=O.ts _ _ hT n b cl s q tm hr;exact ⟨h1,h2▸List.prefix_refl _⟩
 | @step g w hN hT hgo _ ih=>
  intro n b cl s q tm hr;obtain ⟨h',V',hl⟩:=hgo w.tape w.drawn;obtain ⟨n',b',cl',s',q',tm',h1,h2⟩:=O.grow g w _ _ h' V' hN hl n b cl s q tm hr;obtain ⟨k1,k2⟩:=ih _ _ h' V' hl n' b' cl' s' q' tm' h1;rcases h2 with ⟨h2,h3⟩|h2
  rotate_left
  .rw [h2] at k1;cases k1
  refine ⟨?_,h2.trans k2⟩;cases cl with
  |false=>rfl
  |true=>rw [h3 rfl] at k1;cases k1
end
end
section
open Go
open Go.Conc (crowd Past EvL Deaf QuitsD woken awake crowd_pick runT_crowd_go rcase scase parked ph)
section
variable {P:Wx} {gs:Array Wj} {w w₁:Wz} {sl:Option (Nat×Nat)} {i j:Nat} {g g₂ gj:Wj} {es:Array Event} {shape shj:CommShape} {blocking:Bool}
 {c cap s r:Nat} {buf:Array Wq} {closed tm:Bool} {v z zj:Wq}
theorem nk (hi:gs[i]?=some g)(h:stepG P (i==0) g w=.comm g₂ #[rcase c z] blocking shape w₁ es)(hc:w₁.heap[c]?=some (.chan cap buf closed s r tm))(hsome:0<buf.size)
  (hij:j≠i) (hj:gs[j]?=some (parked gj #[scase c v zj] shj)) (hp:partners (gs.setIfInBounds i ph) c true=[(j,0)]):
  runT P (crowd gs w sl) i=(.next (crowd ((gs.setIfInBounds j (gj.finishComm P #[scase c v zj] shj 0 Wy false)).setIfInBounds i (g₂.finishComm P #[rcase c z] shape 0 (buf.getD 0 Wy) true)) (w₁.setChan c cap ((buf.extract 1 buf.size).push v) closed (s+1) (r+1) tm) sl),
   MemOp.ofEvents i g.frame.fn g.frame.place es++#[{g:=i,fn:=g₂.frame.fn,pos:=g₂.frame.place,act:=.recv c r cap},{g:=i,fn:=g₂.frame.fn,pos:=g₂.frame.place,act:=.recvDone c r},
    {g:=j,fn:=gj.frame.fn,pos:=gj.frame.place,act:=.send c s},{g:=j,fn:=gj.frame.fn,pos:=gj.frame.place,act:=.sendDone c s}]):=by
 rw [Conc.runT_crowd_comm hi h];have hj':=Conc.stand_get (i:=i) hij hj;have hfp:=Conc.finishPartner_at P (gs.setIfInBounds i ph) hj' (cs:=#[scase c v zj]) (sh:=shj) rfl 0 Wy;have hgd:(gs.setIfInBounds i ph).getD j default=parked gj #[scase c v zj] shj:=by rw [gD,hj'];rfl
 have hov:offeredValue (gs.setIfInBounds i ph) j 0=v:=by simp [offeredValue,hj',parked,scase]
 simp [communicate,ways,rcase,hc,hp,hsome,choose,Sem.run,Question.forced,bind,Sem.bind,pure,World.setChan,crowd,hfp,hgd,hov,Conc.set_stand2,scase,parked];rfl
end
def jJ (P : Wx) : List PanicEntry := [{ v := .iface P.rt.plainError (strVal "send on closed channel"), recovered := false }]
theorem nl {P:Wx}{gs:Array Wj}{w w₁:Wz}{sl:Option (Nat×Nat)}{i:Nat}{g g₂:Wj}{es:Array Event}{shape:CommShape}{blocking:Bool}{c cap s r:Nat}{buf:Array Wq}{tm:Bool}{v z:Wq}(hi:gs[i]?=some g)(h:stepG P (i==0) g w=.comm g₂ #[scase c v z] blocking shape w₁ es)(hc:w₁.heap[c]?=some (.chan cap buf true s r tm)):
  runT P (crowd gs w sl) i=(.next (crowd (gs.setIfInBounds i {g₂ with frame:=g₂.frame.raise (jJ P)}) w₁ sl),MemOp.ofEvents i g.frame.fn g.frame.place es):=by
 rw [Conc.runT_crowd_comm hi h];simp [communicate,ways,scase,hc,choose,Sem.run,Question.forced,bind,Sem.bind,pure,runtimePanic,goPanic,program,crowd,jJ]
variable {P:Wx} [Two P]
structure Moved (ρ ρ' ρr ρr':Ren)(W W1:Wz)(c:Nat)(es:Array Event):Prop where
 le:ρ.le ρ'
 ler:ρr.le ρr'
 new:∀a b,ρ' a b->ρ a b\/W.heap.size<=b
 newr:∀a b,ρr' a b->ρr a b\/W.heap.size<=b
 keep:Keep ρr W W1
 row:W1.heap[c]?=W.heap[c]?
 ev:∀e∈es,iI ρr' e
structure n9 (D:PhD P)(ρ ρr:Ren)(W:Wz)(h hr g:Wj)(V Vr:Wz)(L:List Wq):Prop where
 side:Side P D.X ρ h g V W D.cV D.c L
 sideR:Side P ([trap P.alt],D.X.2) ρr hr g Vr W D.cr D.c L
 only:∀ (a:Nat) o,Vr.heap[a]?=some o->o.isChan=true->a=D.cr
 chR:∀x,ρr.ch x->x=D.cr
 unmk:(∀f,¬Mk ρr.F f=true)/\ρr.F=D.Fr
 base:(∀a b,D.R0 a b->ρ a b)/\ρ.F=D.Fp
 all:∀a b o,ρ a b->V.heap[a]?=some o->o.isChan=true->ρ.ch a
 rest:∀a b,ρ.ch a->ρ a b->a≠D.cV->∃n s q tm n' s' q',V.heap[a]?=some (.chan n #[] true s q tm)/\W.heap[b]?=some (.chan n' #[] true s' q' tm)
structure FA (D:PhD P)(ρ ρr:Ren)(W:Wz)(h1 hr1 g1:Wj)(V1 Vr1:Wz)(L:List Wq)(z:Wq)(s:CommShape)(h hr:Wj)(V Vr:Wz):Prop where
 at1:n9 D ρ ρr W h1 hr1 g1 V1 Vr1 L
 sh:∃ok,s=.recv ok
 atc:AtC P g1 (rcase D.c z) s
 rc:∃cc,RC ρ cc (rcase D.c z)/\LC P.alt h1 cc s V1 h V
 rcr:∃cc,RC ρr cc (rcase D.c z)/\LC P.alt hr1 cc s Vr1 hr Vr
section
variable {D:PhD P} {Post:Wq->Wz->Prop} {ρ ρr:Ren} {W:Wz} {h hr g:Wj} {V Vr:Wz} {L:List Wq}
omit [Two P] in
theorem LC.only {g g':Wj}{cc:CommCase}{s:CommShape}{V V':Wz}(h:LC P g cc s V g' V'){c0:Nat}(ho:∀ (a:Nat) o,V.heap[a]?=some o->o.isChan=true->a=c0):∀ (a:Nat) o,V'.heap[a]?=some o->o.isChan=true->a=c0:=by
 intro a o hao hc;cases h with
 |shut=>exact ho a o hao hc
 |dead=>exact ho a o hao hc
 | @send r cap sent rcvd buf tm v h1 h2 h3 h4=>
  by_cases e:r=a
  .subst e;exact ho _ _ h3 rfl
  .exact ho a o (by simpa [e] using hao) hc
 | @recv r cap sent rcvd buf cl tm h1 h2 h3 h4=>
  by_cases e:r=a
  .subst e;exact ho _ _ h3 rfl
  .exact ho a o (by simpa [e] using hao) hc
theorem vD (O:vC P D Post)(R:n9 D ρ ρr W h hr g V Vr L)(hnb:NB [trap P.alt] hr)(d:Nat){h' hr':Wj}{V' Vr':Wz}(hl:LS P.alt h (V.on W.tape d) h' V')(hlr:LS P.alt hr (Vr.on W.tape d) hr' Vr'):
    ∃g1 W1 es ρ' ρr',Moved ρ ρ' ρr ρr' W W1 D.c es /\
      ((stepG P true g (W.at d)=.go g1 W1 es/\n9 D ρ' ρr' W1 h' hr' g1 V' Vr' L) \/
       (∃h1 hr1 V1 Vr1 z s,stepG P true g (W.at d)=.comm g1 #[rcase D.c z] true s W1 es/\FA D ρ' ρr' W1 h1 hr1 g1 V1 Vr1 L z s h' hr' V' Vr')):=by
  have S:=R.side;have Sr:=R.sideR;have hbr:Base ([trap P.alt],D.X.2) hr.frame g.callers:=fun e=>hnb (Sr.go.callers.tail e)
  have hb:Base D.X h.frame g.callers:=fun e=>by
    rcases hbr e with k|k
    . have m1:=Sr.go.frame.mode
      have m2:=S.go.frame.mode;rw [k] at m1;cases hm:g.frame.mode<;>rw [hm] at m1<;>cases m1
      rw [hm] at m2
      left
      generalize h.frame.mode=x at m2;cases m2;rfl
    . right
      have m1:=Sr.go.frame.defers;have m2:=S.go.frame.defers;intro hn;rw [hn] at m2;generalize g.frame.defers=x at m1 m2;cases m2;generalize hr.frame.defers=y at m1 k;cases m1;exact k rfl
  obtain ⟨-,sr⟩:=mA O.zero O.count true Sr.go hbr Sr.sim Sr.gid Sr.ext R.unmk.1 d rfl hlr;obtain ⟨-,sv⟩:=nj O.zero O.count true S.go hb S.sim S.gid S.ext d rfl hl (fun f a' fr' cs' u' es' hM hst=>by
    have hst:stepG P true g (W.at d)=_:=hst;rw [hst] at sr;obtain ⟨-,fn,-,hfn,-,hbs,-⟩:=S.gid.apart f hM;obtain ⟨b,hb0⟩:=Option.isSome_iff_exists.1 hbs;have hno:=O.mark f (by rw [<-R.base.2];exact hM) fn b hfn hb0;generalize stepG P.alt true hr (Vr.on W.tape d)=z at sr;cases sr with
    | @go hx _ _ _ _ _ ρ2 R2 hg2 _=>
      have ht:=hg2.frame.todo;have e:(Frame.enter P f a' .normal).todo=[.code b]:=by simp [Frame.enter,hfn,hb0]
      simp only [e] at ht;generalize hx.frame.todo=td at ht;cases ht with
      |cons hi _=>
        cases hi with
        |code h=>
          rw [R2.le.F,R.unmk.2,hno] at h;cases h)
  have calm1:∀ {ρ':Ren},ρ.le ρ'->(ρ'.F fS=false/\ρ'.F lq=false)/\(ρ'.loose=true/\ρ'.wide=true)/\ρ'.ch D.cV:=fun l=>⟨by rw [l.F];exact S.calm,by rw [l.loose,l.wide];exact S.loose,by rw [l.ch];exact S.ch⟩
  have calmr:∀ {ρ':Ren},ρr.le ρ'->(ρ'.F fS=false/\ρ'.F lq=false)/\(ρ'.loose=true/\ρ'.wide=true)/\ρ'.ch D.cr:=fun l=>⟨by rw [l.F];exact Sr.calm,by rw [l.loose,l.wide];exact Sr.loose,by rw [l.ch];exact Sr.ch⟩
  have rowV:∀ {ρ':Ren} {u u':Wz},Reach ρ ρ' (V.on W.tape d) (W.at d) u u'->∃n b s q tm,u.heap[D.cV]?=some (.chan n b true s q tm)/\b.toList=L:=fun R=>by
    obtain ⟨n,b,s,q,tm,h1,h2⟩:=S.row;rcases R.chs.row D.cV D.c S.ch S.pair with ⟨k,-⟩|⟨k,-⟩
    . exact ⟨n,b,s,q,tm,k.trans h1,h2⟩
    . rw [S.calm.1] at k;cases k
  have allV:∀ {ρ':Ren} {u u':Wz},Reach ρ ρ' (V.on W.tape d) (W.at d) u u'->(∀a b o,ρ' a b->u.heap[a]?=some o->o.isChan=true->ρ'.ch a)/\∀a b,ρ'.ch a->ρ' a b->a≠D.cV->∃n s q tm n' s' q',u.heap[a]?=some (.chan n #[] true s q tm)/\u'.heap[b]?=some (.chan n' #[] true s' q' tm):=fun R1=>by
    refine ⟨fun a b o hab ho hc=>?_,fun a b hch hab hne=>?_⟩
    . rw [R1.le.ch]
      rcases R1.chs.only S.calm.2 a o ho hc with k|⟨k,-⟩
      . rcases R1.new a b hab with k2|⟨k2,-⟩
        . exact R.all a b o k2 k hc
        . have:a<V.heap.size:=(eS k).1
          exact absurd k2 (by show ¬V.heap.size<=a;omega)
      . rw [S.calm.1] at k;cases k
    . rw [R1.le.ch] at hch
      rcases R1.new a b hab with k2|⟨k2,-⟩
      . obtain ⟨n,s,q,tm,n',s',q',e1,e2⟩:=R.rest a b hch k2 hne
        rcases R1.chs.row a b hch k2 with ⟨k,k3⟩|⟨k,-⟩
        . exact ⟨n,s,q,tm,n',s',q',k.trans e1,k3.trans e2⟩
        . rw [S.calm.1] at k;cases k
      . obtain ⟨o,e1,-⟩:=S.sim.chan a hch
        have:a<V.heap.size:=(eS e1).1;exact absurd k2 (by show ¬V.heap.size<=a;omega)
  have rowR:∀ {ρ':Ren} {u u':Wz},Reach ρr ρ' (Vr.on W.tape d) (W.at d) u u'->(∃n b s q tm,u.heap[D.cr]?=some (.chan n b true s q tm)/\b.toList=L)/\u'.heap[D.c]?=W.heap[D.c]?/\∀ (a:Nat) o,u.heap[a]?=some o->o.isChan=true->a=D.cr:=fun R1=>by
    obtain ⟨n,b,s,q,tm,h1,h2⟩:=Sr.row;refine ⟨?_,?_,fun a o ho hc=>?_⟩
    . rcases R1.chs.row D.cr D.c Sr.ch Sr.pair with ⟨k,-⟩|⟨k,-⟩
      . exact ⟨n,b,s,q,tm,k.trans h1,h2⟩
      . rw [Sr.calm.1] at k;cases k
    . rcases R1.chs.row D.cr D.c Sr.ch Sr.pair with ⟨-,k⟩|⟨k,-⟩
      . exact k
      . rw [Sr.calm.1] at k;cases k
    . rcases R1.chs.only Sr.calm.2 a o ho hc with k|⟨k,-⟩
      . exact R.only a o k hc
      . rw [Sr.calm.1] at k;cases k
  cases hlr with
  | @go _ _ esr er hr2 hd2=>
    rw [er] at sr;generalize hy:stepG P true g (W.at d)=y at sr sv;cases sr with
    | @go _ g1 _ W1 _ es ρr' R1 hg1 he1=>
      cases hl with
      | @go _ _ esv ev hrv hdv=>
        rw [ev] at sv;cases sv with
        |go _ ρ' R2 hg2 he2=>
          obtain ⟨k1,k3,k4⟩:=calm1 R2.le;obtain ⟨m1,m3,m4⟩:=calmr R1.le;obtain ⟨r1,r2,r3⟩:=rowR R1;exact ⟨g1,W1,es,ρ',ρr',⟨R2.le,R1.le,fun a b h=>(R2.new a b h).imp id (·.2),fun a b h=>(R1.new a b h).imp id (·.2),⟨R1.keep.os,R1.keep.output,R1.keep.tape,R1.keep.size,R1.keep.block⟩,r2,he1⟩,.inl ⟨rfl,
            ⟨⟨hg2,R2.sim,S.gid.mono R2.le,by rw [R2.le.F];exact S.ext,k1,k3,k4,R2.le _ _ S.pair,rowV R2⟩,⟨hg1,R1.sim,Sr.gid.mono R1.le,by rw [R1.le.F];exact Sr.ext,m1,m3,m4,R1.le _ _ Sr.pair,r1⟩,r3,(by rw [R1.le.ch];exact R.chR),(by rw [R1.le.F];exact R.unmk),⟨fun a b k=>R2.le _ _ (R.base.1 a b k),R2.le.F.trans R.base.2⟩,(allV R2).1,(allV R2).2⟩⟩⟩
      |comm ev _=>
        rw [ev] at sv;cases sv
  | @comm hr1 ccr s Vr1 esr _ _ er hcr=>
    rw [er] at sr;generalize hy:stepG P true g (W.at d)=y at sr sv;cases sr with
    | @comm _ g1 _ c' hC _ hsh hrun _ W1 _ es ρr' R1 hg1 hcc1 he1 ha1=>
      cases hl with
      |go ev _ _=>rw [ev] at sv;cases sv
      | @comm h1 cc sv' V1 esv _ _ ev hcv=>
        rw [ev] at sv;cases sv with
        |comm hC2 _ hsh2 hrun2 _ ρ' R2 hg2 hcc2 he2 ha2=>
          obtain ⟨k1,k3,k4⟩:=calm1 R2.le;obtain ⟨m1,m3,m4⟩:=calmr R1.le;obtain ⟨r1,r2,r3⟩:=rowR R1;have hsn:ccr.send=none:=by
            cases hx:ccr.send with
            |none=>rfl
            |some v=>have:=hC.1 (by rw [hx];rfl);rw [Sr.calm.1] at this;cases this
          have hsn':c'.send=none:=by
            rcases hcc1.send with ⟨-,k⟩|⟨v,_,k,-⟩
            . exact k
            . rw [hsn] at k;cases k
          have hchan:ccr.chan=.chan (some D.cr):=by
            cases hcr with
            |send q1 q2 q3 q4=>rw [hsn] at q2;cases q2
            |dead q1 q2 q3=>rw [hsn] at q2;cases q2
            |recv q1 q2 q3 q4=>rw [q1,r3 _ _ q3 rfl]
            |shut q1 q2 q3=>rw [q1,r3 _ _ q3 rfl]
          have hc':c'=rcase D.c c'.zero:=by
            refine vB ?_ hsn';have:=hcc1.chan;rw [hchan] at this;generalize c'.chan=x at this;cases this with
            |chan k=>cases k with
              |some k=>rw [ρr'.fn _ _ _ k (R1.le _ _ Sr.pair)]
          have hshr:∃ok,s=.recv ok:=by
            rcases hsh with ⟨k,-⟩|⟨-,k⟩
            . rw [hsn] at k;cases k
            . exact k
          refine ⟨g1,W1,es,ρ',ρr',⟨R2.le,R1.le,fun a b h=>(R2.new a b h).imp id (·.2),fun a b h=>(R1.new a b h).imp id (·.2),⟨R1.keep.os,R1.keep.output,R1.keep.tape,R1.keep.size,R1.keep.block⟩,r2,he1⟩,.inr ⟨h1,hr1,V1,Vr1,c'.zero,s,by rw [<-hc'],
            ⟨⟨⟨hg2,R2.sim,S.gid.mono R2.le,by rw [R2.le.F];exact S.ext,k1,k3,k4,R2.le _ _ S.pair,rowV R2⟩,⟨hg1,R1.sim,Sr.gid.mono R1.le,by rw [R1.le.F];exact Sr.ext,m1,m3,m4,R1.le _ _ Sr.pair,r1⟩,r3,(by rw [R1.le.ch];exact R.chR),(by rw [R1.le.F];exact R.unmk),⟨fun a b k=>R2.le _ _ (R.base.1 a b k),R2.le.F.trans R.base.2⟩,(allV R2).1,(allV R2).2⟩,hshr,by rw [<-hc'];exact ha1.2.2,⟨cc,by rw [<-hc'];exact hcc2,hcv⟩,⟨ccr,by rw [<-hc'];exact hcc1,hcr⟩⟩⟩⟩
structure jK (ρs ρs':Ren)(W W1:Wz)(c:Nat)(es:Array Event):Prop where
 le:ρs.le ρs'
 new:∀a b,ρs' a b->ρs a b\/W.heap.size<=b
 keep:Keep ρs W W1
 row:W1.heap[c]?=W.heap[c]?
 ev:∀e∈es,iI ρs' e
theorem BZ (O:vC P D Post){ρs:Ren}{hs s:Wj}{Vs:Wz}(S:Snd P ([trap P.alt],D.Bs) ρs hs s Vs W D.cs D.c L)(hnb:NB [trap P.alt] hs)(d:Nat){hs':Wj}{Vs':Wz}(hl:LS P.alt hs (Vs.on W.tape d) hs' Vs')(hop:∀n b cl s q tm,Vs'.heap[D.cs]?=some (.chan n b cl s q tm)->cl=false):
    ∃s1 W1 es ρs',jK ρs ρs' W W1 D.c es /\
      ((stepG P false s (W.at d)=.go s1 W1 es/\Snd P ([trap P.alt],D.Bs) ρs' hs' s1 Vs' W1 D.cs D.c L) \/
       (∃h1 V1 cc v z,stepG P false s (W.at d)=.comm s1 #[scase D.c v z] true .send W1 es/\Snd P ([trap P.alt],D.Bs) ρs' h1 s1 V1 W1 D.cs D.c L/\RC ρs' cc (scase D.c v z)/\LC P.alt h1 cc .send V1 hs' Vs') \/
       (∃r v z n b s' q tm,stepG P false s (W.at d)=.comm s1 #[scase r v z] true .send W1 es/\W1.heap[r]?=some (.chan n b true s' q tm)/\Snd P ([trap P.alt],D.Bs) ρs' hs' {s1 with frame:=s1.frame.raise (jJ P)} Vs' W1 D.cs D.c L)):=by
  have hb:Base ([trap P.alt],D.Bs) hs.frame s.callers:=fun e=>hnb (S.go.callers.tail e)
  have hne:hs.callers≠[]:=fun e=>by
    have:=S.go.callers.len1;rw [e] at this;simp at this
  obtain ⟨-,sr⟩:=mA O.zero O.count false S.go hb S.sim S.gid S.ext S.unmk d (xx _ _ hne _).symm hl;have calm1:∀ {ρ':Ren},ρs.le ρ'->(ρ'.F Fz=false/\ρ'.F lq=false)/\(∀f,¬Mk ρ'.F f=true)/\(ρ'.loose=true/\ρ'.wide=false)/\∀x,ρ'.ch x↔x=D.cs:=fun l=>⟨by rw [l.F];exact S.calm,by rw [l.F];exact S.unmk,by rw [l.loose,l.wide];exact S.loose,by rw [l.ch];exact S.ch⟩
  have rowS:∀ {ρ':Ren} {u u':Wz},Reach ρs ρ' (Vs.on W.tape d) (W.at d) u u'->(∀n b s q tm,u.heap[D.cs]?=some (.chan n b true s q tm)->False)->(∃n b s q tm,u.heap[D.cs]?=some (.chan n b false s q tm)/\b.toList=L)/\u'.heap[D.c]?=W.heap[D.c]?/\∀ (a n:Nat) b s q tm,u.heap[a]?=some (.chan n b false s q tm)->a=D.cs:=fun R1 hno=>by
    obtain ⟨n,b,s,q,tm,h1,h2⟩:=S.row;have key:=R1.chs.row D.cs D.c ((S.ch _).2 rfl) S.pair;refine ⟨?_,?_,fun a n b s q tm ho=>?_⟩
    . rcases key with ⟨k,-⟩|⟨-,_,_,_,_,_,k⟩
      . exact ⟨n,b,s,q,tm,k.trans h1,h2⟩
      . exact (hno _ _ _ _ _ k).elim
    . rcases key with ⟨-,k⟩|⟨-,_,_,_,_,_,k⟩
      . exact k
      . exact (hno _ _ _ _ _ k).elim
    . rcases R1.chs.only S.calm.2 a _ ho rfl with k|⟨-,_,_,_,_,_,k⟩
      . exact S.only a n b s q tm k
      . rw [ho] at k;cases k
  cases hl with
  | @go _ _ esr er hr2 hd2=>
    rw [er] at sr;generalize hy:stepG P false s (W.at d)=y at sr;cases sr with
    | @go _ g1 _ W1 _ es ρ' R1 hg1 he1=>
      obtain ⟨m1,m2,m3,m4⟩:=calm1 R1.le;obtain ⟨r1,r2,r3⟩:=rowS R1 (fun n b s q tm k=>by cases hop _ _ _ _ _ _ k);exact ⟨g1,W1,es,ρ',⟨R1.le,fun a b h=>(R1.new a b h).imp id (·.2),⟨R1.keep.os,R1.keep.output,R1.keep.tape,R1.keep.size,R1.keep.block⟩,r2,he1⟩,.inl ⟨rfl,⟨hg1,R1.sim,S.gid.mono R1.le,by rw [R1.le.F];exact S.ext,m1,m2,m3,m4,R1.le _ _ S.pair,r1,r3⟩⟩⟩
  | @comm h1 cc sh V1 esr _ _ er hcr=>
    rw [er] at sr;generalize hy:stepG P false s (W.at d)=y at sr;cases sr with
    | @comm _ g1 _ c' hC _ hsh hrun _ W1 _ es ρ' R1 hg1 hcc1 he1 ha1=>
      obtain ⟨m1,m2,m3,m4⟩:=calm1 R1.le;have hsn:cc.send≠none:=fun k=>by have:=hC.2 k;rw [S.calm.1] at this;cases this
      have hno:∀n b s q tm,V1.heap[D.cs]?=some (.chan n b true s q tm)->False:=fun n b s q tm k=>by
        cases hcr with
        |recv q1 q2 q3 q4=>exact hsn q2
        |shut q1 q2 q3=>exact hsn q2
        |dead q1 q2 q3=>cases hop _ _ _ _ _ _ k
        | @send r cap sent rcvd buf tm0 v0 q1 q2 q3 q4=>
          by_cases e:r=D.cs
          . subst e;rw [k] at q3;cases q3
          . cases hop n b true s q tm (by simpa [e] using k)
      obtain ⟨r1,r2,r3⟩:=rowS R1 hno;have hshs:sh=.send:=by
        rcases hsh with ⟨-,k⟩|⟨k,-⟩
        . exact k
        . exact absurd k hsn
      subst hshs;obtain ⟨v,hv⟩:∃v,c'.send=some v:=by
        rcases hcc1.send with ⟨k,-⟩|⟨_,v,-,k,-⟩
        . exact absurd k hsn
        . exact ⟨v,k⟩
      have mv:jK ρs ρ' W W1 D.c es:=⟨R1.le,fun a b h=>(R1.new a b h).imp id (·.2),⟨R1.keep.os,R1.keep.output,R1.keep.tape,R1.keep.size,R1.keep.block⟩,r2,he1⟩;have hex:(∃h' V',hs'=h'/\Vs'=V'/\cc.chan=.chan (some D.cs))\/(Vs'=V1/\hs'={h1 with frame:=h1.frame.raise (jJ P)}/\∃r n b s q tm,cc.chan=.chan (some r)/\V1.heap[r]?=some (.chan n b true s q tm)):=by
        cases hcr with
        |recv q1 q2 q3 q4=>exact absurd q2 hsn
        |shut q1 q2 q3=>exact absurd q2 hsn
        |send q1 q2 q3 q4=>exact .inl ⟨_,_,rfl,rfl,by rw [q1,r3 _ _ _ _ _ _ q3]⟩
        |dead q1 q2 q3=>exact .inr ⟨rfl,rfl,_,_,_,_,_,_,q1,q3⟩
      rcases hex with ⟨_,_,-,-,hchan⟩|⟨rfl,rfl,r,n,b,s',q,tm,hchan,hrow⟩
      rotate_left
      . obtain ⟨r',cap',buf',cl',s'',q'',c1,c2,c3,-,c5,-⟩:=pG R1.sim hcc1 hchan hrow
        obtain rfl:=c5.resolve_left (by rw [m3.2];exact fun h=>by cases h);have hc':c'=scase r' v c'.zero:=by
          obtain ⟨a,b,z⟩:=c';simp only at c1 hv;subst c1;subst hv;rfl
        refine ⟨g1,W1,es,ρ',mv,.inr (.inr ⟨r',v,c'.zero,_,_,_,_,_,by rw [<-hc'],c3,⟨⟨hg1.frame.raise1 (.iface _ (.string _)),hg1.callers,hg1.kind.raise _ _,hg1.status,hg1.dying,hg1.offers⟩,R1.sim,S.gid.mono R1.le,by rw [R1.le.F];exact S.ext,m1,m2,m3,m4,R1.le _ _ S.pair,r1,r3⟩⟩)⟩
      have hc':c'=scase D.c v c'.zero:=by
        have hch:c'.chan=.chan (some D.c):=by
          have:=hcc1.chan;rw [hchan] at this;generalize c'.chan=x at this;cases this with
          |chan k=>cases k with
            |some k=>rw [ρ'.fn _ _ _ k (R1.le _ _ S.pair)]
        obtain ⟨a,b,z⟩:=c';simp only at hch hv;subst hch;subst hv;rfl
      exact ⟨g1,W1,es,ρ',mv,.inr (.inl ⟨h1,V1,cc,v,c'.zero,by rw [<-hc'],⟨hg1,R1.sim,S.gid.mono R1.le,by rw [R1.le.F];exact S.ext,m1,m2,m3,m4,R1.le _ _ S.pair,r1,r3⟩,by rw [<-hc'];exact hcc1,hcr⟩)⟩
end
end
section
open Go
open Go.Conc (crowd Past EvL Deaf QuitsD woken awake crowd_pick runT_crowd_go rcase scase parked ph)
open Go.ConcN (sumTo upd sumTo_upd upd_ne upd_same)
variable {P:Wx} [Two P] {D:PhD P} {Post:Wq->Wz->Prop}
theorem Moved.far {ρ ρ' ρr ρr' ρs:Ren}{W W1:Wz}{c:Nat}{es:Array Event}(m:Moved ρ ρ' ρr ρr' W W1 c es)(hF:Far ρr ρs)(hB:∀y b,ρs y b->b<W.heap.size):Far ρr' ρs:=fun b x y h1 h2=>by
 rcases m.newr x b h1 with k|k
 .rw [m.ler.old,m.ler.ch];exact hF b x y k h2
 .have:=hB y b h2;omega
theorem n9.at {ρ ρr:Ren}{W:Wz}{h hr g:Wj}{V Vr:Wz}{L:List Wq}(R:n9 D ρ ρr W h hr g V Vr L)(d:Nat):n9 D ρ ρr (W.at d) h hr g V Vr L:=⟨R.side.stays rfl (fun _ _ _ _=>rfl) rfl,R.sideR.stays rfl (fun _ _ _ _=>rfl) rfl,R.only,R.chR,R.unmk,R.base,R.all,R.rest⟩
omit [Two P] in
theorem il {gs:Array Wj}{t:Trace}{q:Nat->Nat}(hL:Lv P (fun _=>False) t gs q){x:Wj}(h0:gs[0]?=some x)(hr:x.status=.running):∀y∈gs,awake y:=fun y hy=>by
 obtain ⟨i,hi,rfl⟩:=Array.mem_iff_getElem.1 hy;rcases Nat.eq_zero_or_pos i with rfl|hpos
 .have:gs[0]=x:=by simpa [eG hi] using h0
  rw [this];exact Conc.awake_of (.inl hr)
 .exact Conc.awake_of ((hL.old i _ hpos (fun k=>k) (eG hi)).status.elim .inl fun x=>.inr (.inr x))
theorem firm0 {gs:Array Wj}{x:Wj}(h0:gs[0]?=some x)(hr:x.status=.running)(w:Wz):∀j o,(j=0\/False)->gs[j]?=some o->o.again w=o:=fun j o hj ho=>by
 rcases hj with rfl|hj
 .rw [h0] at ho;cases ho;exact Conc.again_running _ (.inl hr)
 .exact hj.elim
theorem n9.run {ρ ρr:Ren}{W:Wz}{h hr g:Wj}{V Vr:Wz}{L:List Wq}(R:n9 D ρ ρr W h hr g V Vr L):g.status=.running:=R.side.go.status.2
theorem rn (O:vC P D Post){ρ ρr:Ren}{W:Wz}{h hr g:Wj}{V Vr:Wz}{L:List Wq}(R:n9 D ρ ρr W h hr g V Vr L)(hd:Dem P.alt (fun g _=>NB [trap P.alt] g) D.T h V)(hp:LSs P.alt D.T D.h0 D.V0 h V)(d:Nat):
  ∃h' V',LS P.alt h (V.on W.tape d) h' V'/\Dem P.alt (fun g _=>NB [trap P.alt] g) D.T h' V'/\LSs P.alt D.T D.h0 D.V0 h' V':=by
 have hT:¬D.T h V:=fun k=>by
  have h1:=O.leafT _ _ k;have h2:=R.side.go.callers.len1;have h3:=O.deep;omega
 cases hd with
 |stop k=>exact absurd k hT
 |step _ _ hgo hn=>
  obtain ⟨h',V',hl⟩:=hgo W.tape d;exact ⟨h',V',hl,hn _ _ _ _ hl,hp.trans (.step hT _ _ hl (.refl _ _))⟩
theorem FA.take (O:vC P D Post){ρ ρr:Ren}{W W':Wz}{h1 hr1 g1 h hr:Wj}{V1 Vr1 V Vr:Wz}{v z:Wq}{L:List Wq}{sh:CommShape}(C:FA D ρ ρr W h1 hr1 g1 V1 Vr1 (v::L) z sh h hr V Vr)(hv:v∈D.L)(hos:W'.os=W.os)(hs:∀b,b≠D.c->W'.heap[b]?=W.heap[b]?){n n':Nat}{b b':List Wq}{cl cl':Bool}{s q s' q':Nat}{tm:Bool}(r1:j7 W D.c n b cl s q tm)(r2:j7 W' D.c n' b' cl' s' q' tm):
  n9 D ρ ρr W' h hr (g1.finishComm P #[rcase D.c z] sh 0 v true) V Vr L:=by
 obtain ⟨cc,c1,c2⟩:=C.rc;obtain ⟨cr,d1,d2⟩:=C.rcr;have hkeep:∀ (a:Nat) (o:Obj),V.heap[a]?=some o->o.isChan=true->∃o1:Obj,V1.heap[a]?=some o1/\o1.isChan=true:=fun a o ho hc=>by
  cases c2 with
  |shut=>exact ⟨o,ho,hc⟩
  |dead=>exact ⟨o,ho,hc⟩
  | @send r _ _ _ _ _ _ k1 k2 k3 k4=>
   by_cases e:r=a
   .subst e;exact ⟨_,k3,rfl⟩
   .exact ⟨o,by simpa [e] using ho,hc⟩
  | @recv r _ _ _ _ _ _ k1 k2 k3 k4=>
   by_cases e:r=a
   .subst e;exact ⟨_,k3,rfl⟩
   .exact ⟨o,by simpa [e] using ho,hc⟩
 have hsame:∀a:Nat,a≠D.cV->V.heap[a]?=V1.heap[a]?:=fun a ha=>by
  obtain ⟨-,hch⟩:=C.at1.side.case_ c1;have hr:∀r,cc.chan=.chan (some r)->r≠a:=fun r e=>by
   rw [e] at hch;rcases hch with k|k
   .cases k;exact Ne.symm ha
   .cases k
  cases c2 with
  |shut=>rfl
  |dead=>rfl
  |send k1 k2 k3 k4=>simp [hr _ k1]
  |recv k1 k2 k3 k4=>simp [hr _ k1]
 refine ⟨C.at1.side.take c1 C.sh c2 (O.flat v hv) hos hs r1 r2,C.at1.sideR.take d1 C.sh d2 (O.flat v hv) hos hs r1 r2,d2.only C.at1.only,C.at1.chR,C.at1.unmk,C.at1.base,fun a b o hab ho hc=>?_,fun a b hch hab hne=>?_⟩
 .obtain ⟨o1,k1,k2⟩:=hkeep a o ho hc;exact C.at1.all a b o1 hab k1 k2
 .obtain ⟨n,s,q,tm,n',s',q',e1,e2⟩:=C.at1.rest a b hch hab hne;refine ⟨n,s,q,tm,n',s',q',(hsame a hne).trans e1,?_⟩;rw [hs b (fun e=>hne (ρ.inj _ _ _ hab (e▸C.at1.side.pair)))];exact e2
theorem aF (W:Wz)(c n:Nat)(b:Array Wq)(cl:Bool)(s q:Nat)(tm:Bool){j:Nat}(h:j≠c):(W.setChan c n b cl s q tm).heap[j]?=W.heap[j]?:=by
 unfold World.setChan;exact sN (Ne.symm h)
theorem dw (W:Wz)(c n:Nat)(b:Array Wq)(cl:Bool)(s q:Nat)(tm:Bool)(h:c<W.heap.size):j7 (W.setChan c n b cl s q tm) c n b.toList cl s q tm:=⟨b,by unfold World.setChan;exact sS h,rfl⟩
theorem bV (W:Wz)(c n:Nat)(b:Array Wq)(cl:Bool)(s q:Nat)(tm:Bool):(W.setChan c n b cl s q tm).heap.size=W.heap.size:=by simp [World.setChan]
theorem im (g:Nat)(fn:FuncId)(pos:String):MemOp.ofEvents g fn pos #[]=#[]:=rfl
theorem vE {ρ ρr:Ren}{W:Wz}{h1 hr1 g1 h:Wj}{V1 Vr1 V:Wz}{z:Wq}{sh:CommShape}{cc:CommCase}(R:n9 D ρ ρr W h1 hr1 g1 V1 Vr1 [])(hrc:RC ρ cc (rcase D.c z))(_hsh:∃ok,sh=.recv ok)(hlc:LC P.alt h1 cc sh V1 h V):zB D ρ V W:=by
 have hV:V=V1:=by
  obtain ⟨hsd,hch⟩:=R.side.case_ hrc;obtain ⟨n0,b0,s0,q0,tm0,e1,e2⟩:=R.side.row;cases hlc with
  |send k1 k2 k3 k4=>rw [hsd] at k2;cases k2
  |dead=>rfl
  |shut=>rfl
  |recv k1 k2 k3 k4=>
   rw [k1] at hch;rcases hch with hch|hch
   .cases hch;rw [e1] at k3;cases k3;have:b0=#[]:=Array.toList_inj.1 (by simpa using e2);rw [this] at k4;simp at k4
   .cases hch
 rw [hV];exact ⟨R.base,R.all,R.rest⟩
structure xy (D:PhD P)(ρ ρr:Ren)(W:Wz):Prop where
 kp:Kp D.U W
 off:Off D.U ρ
 offR:Off D.U ρr
 chan:¬D.U.Ko D.c
omit [Two P] in
theorem xy.rcv {D:PhD P}{ρ ρr ρ' ρr':Ren}{W W1:Wz}{es:Array Event}(h:xy D ρ ρr W)(m:Moved ρ ρ' ρr ρr' W W1 D.c es):xy D ρ' ρr' W1:=⟨h.kp.keep h.offR m.keep,h.off.new h.kp m.le.sub m.new ⟨m.le.pin,m.le.bad⟩,h.offR.new h.kp m.ler.sub m.newr ⟨m.ler.pin,m.ler.bad⟩,h.chan⟩
omit [Two P] in
theorem Kp.setChan {U:Outer}{W:Wz}{c:Nat}(h:Kp U W)(hc:¬U.Ko c)(n:Nat)(b:Array Wq)(cl:Bool)(s q:Nat)(tm:Bool):Kp U (W.setChan c n b cl s q tm):=⟨by rw [bV];exact h.1,h.2.1,fun x hx=>(aF (j:=x) _ _ _ _ _ _ _ _ (fun e=>hc (by rw [<-e];exact hx))).trans (h.2.2 x hx)⟩
omit [Two P] in
theorem xy.set {D:PhD P}{ρ ρr:Ren}{W:Wz}(h:xy D ρ ρr W)(n:Nat)(b:Array Wq)(cl:Bool)(s q:Nat)(tm:Bool):xy D ρ ρr (W.setChan D.c n b cl s q tm):=⟨h.kp.setChan h.chan _ _ _ _ _ _,h.off,h.offR,h.chan⟩
theorem uk (O:vC P D Post){ρ ρr ρs:Ren}{h1 hr1 g1 h hr:Wj}{V1 Vr1 V Vr:Wz}{z:Wq}{sh:CommShape}(hp:LSs P.alt D.T D.h0 D.V0 h V){n s q:Nat}{tm:Bool}{pc:Nat}:
  ∀ (M:Nat) (gs:Array Wj) (W:Wz) (sl:Option (Nat×Nat)) (t:Trace) (qs:Nat->Nat),sumTo gs.size qs<=M->FA D ρ ρr W h1 hr1 g1 V1 Vr1 [] z sh h hr V Vr->j7 W D.c n [] true s q tm->xy D ρ ρr W->gs[0]?=some {parked g1 #[rcase D.c z] sh with status:=.running}->Lv P (fun _=>False) t gs qs->PhC D.c pc ρs W.heap.size t->Fin P Post gs W sl t:=by
 intro M;induction M using Nat.strongRecOn with
 |_ M ih=>
  intro gs W sl t qs hM C r hU h0 hL hP;obtain ⟨i,x,d,sl',hi,hx,hst⟩:=crowd_pick (P:=P) (w:=W) (sl:=sl) (il hL h0 rfl) ⟨0,_,h0,rfl⟩;rcases Nat.eq_zero_or_pos i with rfl|hpos
  .rw [h0] at hi;cases hi;have hst0:stepG P (0==0) {parked g1 #[rcase D.c z] sh with status:=.running} (W.at d)=.comm g1 #[rcase D.c z] true sh (W.at d) #[]:=C.atc true (W.at d);obtain ⟨a,hrow,ha⟩:=r;have ha:a=#[]:=Array.toList_inj.1 (by simpa using ha);subst ha;have hrt:=Conc.crowd_recv_closed (sl:=sl') (i:=0) h0 hst0 hrow (hL.alone D.c true);rw [im,Array.empty_append] at hrt;have hlt:D.c<W.heap.size:=(eS hrow).1;obtain ⟨cc,c1,c2⟩:=C.rc;have S:=((C.at1.at d).side).nothing c1 C.sh c2;exact Fin.next (hst.trans hrt) (O.fin ρ h _ V (W.at d) n s q tm _ _ _ qs S (vE (C.at1.at d) c1 C.sh c2) ⟨hU.kp,hU.off⟩ hrow hp (by simp [(eS h0).1])
    (hL.put (fun op hop=>by simp at hop;subst hop;exact ⟨by simp,by simp⟩) (by simp) (fun j hj _=>sN (by omega)))
    (hP.done ⟨rfl,rfl⟩ hlt))
  .obtain ⟨gs',q',ops,e1,e2,e3,e4,e5,e6,-⟩:=slip hL hP (fun t i fn pos es hi _ h hm=>h.mute hi hm) hi hx hpos (fun k=>k) (firm0 h0 rfl _) hst;exact Fin.next e1 (ih _ (by omega) gs' (W.at d) sl' (t++ops) q' (lR _) ⟨C.at1.at d,C.sh,C.atc,C.rc,C.rcr⟩ r ⟨hU.kp,hU.off,hU.offR,hU.chan⟩ ((e3 0 (.inl rfl)).trans h0) e4 e5)
def eY (P:Wx) [Two P](D:PhD P)(Post:Wq->Wz->Prop)(hr:Wj)(Vr:Wz):Prop:=
 ∀ (gs:Array Wj) (W:Wz) (sl:Option (Nat×Nat)) (t:Trace) (qs:Nat->Nat) (ρ ρr ρs:Ren) (h g:Wj) (V:Wz) (L:List Wq) (n s q:Nat) (tm:Bool) (pc:Nat),n9 D ρ ρr W h hr g V Vr L->Dem P.alt (fun g _=>NB [trap P.alt] g) D.T h V->LSs P.alt D.T D.h0 D.V0 h V->(∀v∈L,v∈D.L)->j7 W D.c n L true s q tm->Far ρr ρs->xy D ρ ρr W->(∀y b,ρs y b->b<W.heap.size)->gs[0]?=some g->Lv P (fun _=>False) t gs qs->PhC D.c pc ρs W.heap.size t->Fin P Post gs W sl t
theorem oB (O:vC P D Post){hr:Wj}{Vr:Wz}(hnb:NB [trap P.alt] hr)(hls:∀τ d,∃hr' Vr',LS P.alt hr (Vr.on τ d) hr' Vr')
  (hn:∀τ d hr' Vr',LS P.alt hr (Vr.on τ d) hr' Vr'->eY P D Post hr' Vr'\/((∀n b s q tm,Vr.heap[D.cr]?=some (.chan n b true s q tm)->b.toList=[])/\∃h1 cc s V1 es,stepG P.alt true hr (Vr.on τ d)=.comm h1 cc true s V1 es)):eY P D Post hr Vr:=by
 intro gs W sl t qs ρ ρr ρs h g V L n s q tm pc R hd hp hLL r hF hU hB h0 hL hP;obtain ⟨M,hM⟩:∃M,sumTo gs.size qs<=M:=⟨_,lR _⟩;induction M using Nat.strongRecOn generalizing gs W sl t qs with
 |_ M ih=>
  obtain ⟨i,x,d,sl',hi,hx,hst⟩:=crowd_pick (P:=P) (w:=W) (sl:=sl) (il hL h0 R.run) ⟨0,_,h0,R.run⟩;rcases Nat.eq_zero_or_pos i with rfl|hpos
  .obtain rfl:x=g:=by rw [h0] at hi;exact (oJ hi).symm
   obtain ⟨h',V',hl,hd',hp'⟩:=rn O R hd hp d;obtain ⟨hr',Vr',hlr⟩:=hls W.tape d;have hnx:=hn _ _ _ _ hlr;obtain ⟨g1,W1,es,ρ',ρr',m,hcase⟩:=vD O R hnb d hl hlr;have hF':=m.far hF hB;have hsz:W.heap.size<=W1.heap.size:=m.keep.size;have r1:j7 W1 D.c n L true s q tm:=by
    obtain ⟨a,k1,k2⟩:=r;exact ⟨a,m.row.trans k1,k2⟩
   rcases hcase with ⟨hg,R'⟩|⟨h1,hr1,V1,Vr1,z,sh,hg,C⟩
   .have hC:eY P D Post hr' Vr':=by
     rcases hnx with k|⟨-,_,_,_,_,_,k⟩
     .exact k
     .exfalso;have hbr:Base ([trap P.alt],D.X.2) hr.frame x.callers:=fun e=>hnb (R.sideR.go.callers.tail e)
      obtain ⟨-,sr⟩:=mA O.zero O.count true R.sideR.go hbr R.sideR.sim R.sideR.gid R.sideR.ext R.unmk.1 d rfl hlr;rw [k,hg] at sr;cases sr
    obtain ⟨gs',ops,e1,e2,e3,e4,-,e6⟩:=pE hL hi (.inl rfl) hst (show stepG P (0==0) x (W.at d)=_ from hg);subst e2;exact Fin.next e1 (hC gs' W1 sl' _ qs ρ' ρr' ρs h' g1 V' L n s q tm pc R' hd' hp' hLL r1 hF' (hU.rcv m) (fun y b k=>lL (hB y b k) hsz) e4 e6 (hP.app hF' hsz (jI R'.sideR.sim m.ev 0 _ _)))
   .obtain ⟨a,ha1,ha2⟩:=r1;have hlt:D.c<W1.heap.size:=(eS ha1).1;have hev:=jI C.at1.sideR.sim m.ev 0 x.frame.fn x.frame.place;cases L with
    |nil=>
     have ha:a=#[]:=Array.toList_inj.1 (by simpa using ha2);subst ha;have hrt:=Conc.crowd_recv_closed (sl:=sl') (i:=0) h0 (show stepG P (0==0) x (W.at d)=_ from hg) ha1 (hL.alone D.c true);obtain ⟨cc,c1,c2⟩:=C.rc;refine Fin.next (hst.trans hrt) (O.fin ρ' h' _ V' W1 n s q tm _ _ _ qs (C.at1.side.nothing c1 C.sh c2) (vE C.at1 c1 C.sh c2) ⟨(hU.rcv m).kp,(hU.rcv m).off⟩ ha1 hp' (by simp [(eS h0).1]) (hL.put (fun op hop=>?_) (by simp) (fun j hj _=>sN (by omega))) ?_)
     .rcases Array.mem_append.1 hop with k|k
      .exact (hev op k).2.2.1
      .simp at k;subst k;exact ⟨by simp,by simp⟩
     .rw [<-Array.append_assoc];exact (hP.app hF' hsz hev).done ⟨rfl,rfl⟩ hlt
    |cons v L=>
     have hC:eY P D Post hr' Vr':=by
      rcases hnx with k|⟨k,-⟩
      .exact k
      .exfalso;obtain ⟨n0,b0,s0,q0,tm0,k1,k2⟩:=R.sideR.row;rw [k _ _ _ _ _ k1] at k2;cases k2
     have hsome:0<a.size:=by rw [<-lY,ha2];simp
     have hget:a.getD 0 Wy=v:=by rw [gD,<-gT,ha2];rfl
     have hext:(a.extract 1 a.size).toList=L:=by
      have hl:a.toList.length=a.size:=lY;rw [Array.toList_extract,ha2] at *;simp at hl ⊢;rw [<-hl];simp
     have hrt:=Conc.crowd_recv_buf (sl:=sl') (i:=0) h0 (show stepG P (0==0) x (W.at d)=_ from hg) ha1 hsome (hL.alone D.c true);rw [hget] at hrt;have r2:=dw W1 D.c n (a.extract 1 a.size) true s (q+1) tm hlt;rw [hext] at r2;have R2:=C.take O (hLL v (by simp)) (W':=W1.setChan D.c n (a.extract 1 a.size) true s (q+1) tm) rfl (fun b hb=>aF _ _ _ _ _ _ _ _ hb) ⟨a,ha1,ha2⟩ r2;have hu:∀op∈(#[{g:=0,fn:=g1.frame.fn,pos:=g1.frame.place,act:=.recv D.c q n},{g:=0,fn:=g1.frame.fn,pos:=g1.frame.place,act:=.recvDone D.c q}]:Trace),op.g=0/\cP W1.heap.size op.act:=fun op hop=>by
      simp at hop;rcases hop with rfl|rfl<;>exact ⟨rfl,hlt⟩
     refine Fin.next (hst.trans hrt) (hC _ _ sl' _ qs ρ' ρr' ρs h' _ V' L n s (q+1) tm pc R2 hd' hp' (fun v hv=>hLL v (by simp [hv])) r2 hF' ((hU.rcv m).set _ _ _ _ _ _) (fun y b k=>by rw [bV];exact lL (hB y b k) hsz) (by simp [(eS h0).1]) (hL.put (fun op hop=>?_) (by simp) (fun j hj _=>sN (by omega))) ?_)
     .rcases Array.mem_append.1 hop with k|k
      .exact (hev op k).2.2.1
      .exact (hu op k).2.still
     .rw [<-Array.append_assoc,bV];exact (hP.app hF' hsz hev).app hF' (lR _) (fun op hop=>⟨(hu op hop).1,uj (hu op hop).2⟩)
  .obtain ⟨gs',q',ops,e1,e2,e3,e4,e5,e6,-⟩:=slip hL hP (fun t i fn pos es hi _ h hm=>h.mute hi hm) hi hx hpos (fun k=>k) (firm0 h0 R.run _) hst;exact Fin.next e1 (ih _ (by omega) gs' (W.at d) sl' (t++ops) q' (R.at d) r ⟨hU.kp,hU.off,hU.offR,hU.chan⟩ hB ((e3 0 (.inl rfl)).trans h0) e4 e5 (lR _))
theorem rp (O:vC P D Post){hr:Wj}{Vr:Wz}(hD:Dem P.alt D.Nr D.Tr hr Vr):eY P D Post hr Vr:=by
 induction hD with
 | @stop g w hT=>
  obtain ⟨h1,h2,h3⟩:=O.tr g w hT;refine oB O h1 (fun τ d=>?_) (fun τ d hr' Vr' _=>.inr ⟨h2,?_⟩)
  .obtain ⟨_,_,_,_,_,h',V',e,l⟩:=h3 τ d;exact ⟨h',V',.comm e l⟩
  .obtain ⟨_,_,_,_,_,h',V',e,l⟩:=h3 τ d;exact ⟨_,_,_,_,_,e⟩
 | @step g w hN hT hgo _ ih=>exact oB O (O.nr g w hN) hgo (fun τ d hr' Vr' hl=>.inl (ih τ d hr' Vr' hl))
def Alone (P:Wx)(bo:Nat)(g:Wj):Nat->Wj->Wz->Prop:=
 Go.Conc.Goes P true (fun w v=>v.heap[bo]?=w.heap[bo]?) (fun w w' es=>w'=w/\∀e∈es,∃a:Addr,e=⟨.cell a,false,false⟩/\a.block=bo) (fun g' _=>g'=g)
section
variable {bo k:Nat} {g y:Wj} {W W1:Wz}
omit [Two P] in
theorem Alone.rely (h:Alone P bo g k y W)(hb:W1.heap[bo]?=W.heap[bo]?):Alone P bo g k y W1:=
 Go.Conc.Goes.rely (fun _ _ _ h k=>k.trans h) h hb
omit [Two P] in
theorem Alone.next (h:Alone P bo g k y W):y=g\/(y.status=.running/\∃k',k=k'+1/\∀d,∃y' es,stepG P true y (W.at d)=.go y' (W.at d) es/\(∀e∈es,∃a:Addr,e=⟨.cell a,false,false⟩/\a.block=bo)/\Alone P bo g k' y' (W.at d)):=by
 cases k with
 |zero=>exact .inl (h W rfl)
 |succ k=>
  rcases h with h|⟨hst,h⟩
  .exact .inl (h W rfl)
  .refine .inr ⟨hst,k,rfl,fun d=>?_⟩;obtain ⟨y',w',es,h1,⟨rfl,h2⟩,h3⟩:=Go.Conc.goes_elim (h (W.at d) rfl);exact ⟨y',es,h1,h2,h3⟩
omit [Two P] in
theorem Alone.status (h:Alone P bo g k y W)(hg:g.status=.running):y.status=.running:=by
 rcases h.next with rfl|⟨h,-⟩
 .exact hg
 .exact h
theorem vF {ρr:Ren}(hbo:∃x,ρr x bo/\¬ρr.ch x){es:Array Event}(h:∀e∈es,∃a:Addr,e=⟨.cell a,false,false⟩/\a.block=bo):∀e∈es,iI ρr e:=fun e he=>by
 obtain ⟨a,rfl,rfl⟩:=h e he;obtain ⟨x,h1,h2⟩:=hbo;exact ⟨x,h1,(fun h=>by cases h),h2⟩
end
theorem xz {hr:Wj}{Vr:Wz}(hC:eY P D Post hr Vr){ρ ρr ρs:Ren}{h g:Wj}{V:Wz}{L:List Wq}{n s q:Nat}{tm:Bool}{pc:Nat}(hd:Dem P.alt (fun g _=>NB [trap P.alt] g) D.T h V)(hp:LSs P.alt D.T D.h0 D.V0 h V)(hLL:∀v∈L,v∈D.L)(hF:Far ρr ρs)(hbo:∃x,ρr x D.bo/\¬ρr.ch x):
  ∀ (k:Nat) (gs:Array Wj) (W:Wz) (sl:Option (Nat×Nat)) (t:Trace) (qs:Nat->Nat) (y:Wj),n9 D ρ ρr W h hr g V Vr L->Alone P D.bo g k y W->j7 W D.c n L true s q tm->xy D ρ ρr W->(∀y b,ρs y b->b<W.heap.size)->gs[0]?=some y->Lv P (fun _=>False) t gs qs->PhC D.c pc ρs W.heap.size t->Fin P Post gs W sl t:=by
 intro k;induction k with
 |zero=>
  intro gs W sl t qs y R hy r hU hB h0 hL hP;rcases hy.next with rfl|⟨-,k',e,-⟩
  .exact hC gs W sl t qs ρ ρr ρs h y V L n s q tm pc R hd hp hLL r hF hU hB h0 hL hP
  .cases e
 |succ k ihk=>
  intro gs W sl t qs y R hy r hU hB h0 hL hP;obtain ⟨M,hM⟩:∃M,sumTo gs.size qs<=M:=⟨_,lR _⟩;induction M using Nat.strongRecOn generalizing gs W sl t qs with
  |_ M ih=>
   rcases hy.next with rfl|⟨hst2,k',e,hnx⟩
   .exact hC gs W sl t qs ρ ρr ρs h y V L n s q tm pc R hd hp hLL r hF hU hB h0 hL hP
   .cases e;obtain ⟨i,x,d,sl',hi,hx,hst⟩:=crowd_pick (P:=P) (w:=W) (sl:=sl) (il hL h0 hst2) ⟨0,_,h0,hst2⟩;rcases Nat.eq_zero_or_pos i with rfl|hpos
    .obtain rfl:x=y:=by rw [h0] at hi;exact (oJ hi).symm
     obtain ⟨y',es,hg,hev,hy'⟩:=hnx d;obtain ⟨gs',ops,e1,e2,e3,e4,-,e6⟩:=pE hL hi (.inl rfl) hst (show stepG P (0==0) x (W.at d)=_ from hg);subst e2;exact Fin.next e1 (ihk gs' (W.at d) sl' _ qs y' (R.at d) hy' r ⟨hU.kp,hU.off,hU.offR,hU.chan⟩ hB e4 e6 (hP.app hF (lR _) (jI (R.at d).sideR.sim (vF hbo hev) 0 _ _)))
    .obtain ⟨gs',q',ops,e1,e2,e3,e4,e5,e6,-⟩:=slip hL hP (fun t i fn pos es hi _ h hm=>h.mute hi hm) hi hx hpos (fun k=>k) (firm0 h0 hst2 _) hst;exact Fin.next e1 (ih _ (by omega) gs' (W.at d) sl' (t++ops) q' (R.at d) (hy.rely rfl) r ⟨hU.kp,hU.off,hU.offR,hU.chan⟩ hB ((e3 0 (.inl rfl)).trans h0) e4 e5 (lR _))
end
