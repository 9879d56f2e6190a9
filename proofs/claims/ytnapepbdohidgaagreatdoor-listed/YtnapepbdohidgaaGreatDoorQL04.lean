/- A part. -/
import Derived.Test.YtnapepbdohidgaaGreatDoorQL03
import Derived.Conc.Beside
import Derived.Conc.CrowdComm
import Derived.Conc.CrowdTrace
set_option maxHeartbeats 4000000
set_option maxRecDepth 100000
open Go renaming World->Wj,Value->Wx,Goroutine->Wk,Program->Wv,Frame->Wy,Addr->Wu,undef->Wo
namespace Go.Proofs.Qw
section
open Go.Conc (crowd Past EvL Deaf QuitsD woken awake crowd_pick runT_crowd_go rcase scase parked ph)
open Go.ConcN (sumTo upd sumTo_upd upd_ne upd_same)
def Fin (P:Wv)(Post:Wx->Wj->Prop)(gs:Array Wk)(w:Wj)(sl:Option (Nat×Nat))(t:Trace):Prop:=
 ∃N a o w' t',runNT P (N+1) (crowd gs w sl) t=(.ended o w',t')/\runN P N (crowd gs w sl)=.next a/\step P a=.ended o w'/\Conc.Good P Post a o w' t'
theorem Fin.next {P:Wv}{Post:Wx->Wj->Prop}{gs b:Array Wk}{w w':Wj}{sl sl':Option (Nat×Nat)}{t:Trace}{ops:Array MemOp}(hs:stepT P (crowd gs w sl)=(.next (crowd b w' sl'),ops))(h:Fin P Post b w' sl' (t++ops)):Fin P Post gs w sl t:=by
 obtain ⟨N,a,o,w2,t2,h1,h2,h3,h4⟩:=h;exact ⟨N+1,a,o,w2,t2,by rw [runNT];simp only [hs];exact h1,by rw [runN];simp only [step,hs];exact h2,h3,h4⟩
theorem Fin.last {P:Wv}{Post:Wx->Wj->Prop}{gs:Array Wk}{w w':Wj}{sl:Option (Nat×Nat)}{t:Trace}{ops:Array MemOp}{o:Outcome}(hs:stepT P (crowd gs w sl)=(.ended o w',ops))(h:Conc.Good P Post (crowd gs w sl) o w' (t++ops)):Fin P Post gs w sl t:=
 ⟨0,crowd gs w sl,o,w',t++ops,by simp [runNT,hs],rfl,by simp [step,hs],h⟩
structure Lv (P:Wv)(K:Nat->Prop)(t:Trace)(gs:Array Wk)(q:Nat->Nat):Prop where
 old:∀i g,0<i->¬K i->gs[i]?=some g->QuitsD P (q i) (Deaf t i) g
 above:∀j,gs.size<=j->Deaf t j=0
theorem ja {P:Wv}{n d:Nat}{g:Wk}(h:QuitsD P n d g)(w:Wj):g.again w=g:=Conc.again_running _ h.status
section
variable {P:Wv} {K:Nat->Prop} {Shun:Loc->Prop} {gs:Array Wk} {w:Wj} {sl:Option (Nat×Nat)} {t:Trace} {q:Nat->Nat}
theorem ft {P:Wv}{g g' o:Wk}{w:Wj}(h:o.again w=o):woken P g g' w o=o:=by
 unfold Conc.woken;split
 .exact h
 .rfl
theorem slip (s:Lv P K t gs q){Pa:Trace->Prop}(hP:Pa t)(c:∀ (t:Trace)(i:Nat)(fn:FuncId)(pos:String)(es:Array Event),i≠0->¬K i->Pa t->(∀e∈es,e.mute=true)->Pa (t++MemOp.ofEvents i fn pos es)){i:Nat}{g:Wk}{d:Nat}{sl':Option (Nat×Nat)}(u:gs[i]?=some g)(hg:g.status=.running)(hpos:0<i)(z:¬K i)
    (l:∀j o,(j=0\/K j)->gs[j]?=some o->o.again (w.at d)=o) (hst:stepT P (crowd gs w sl)=runT P (crowd gs (w.at d) sl') i):
    ∃b q' ops,stepT P (crowd gs w sl)=(.next (crowd b (w.at d) sl'),ops)/\b.size=gs.size/\(∀j,(j=0\/K j)->b[j]?=gs[j]?)/\Lv P K (t++ops) b q'/\Pa (t++ops)/\sumTo b.size q'<sumTo gs.size q/\(∀p∈ops,p.g=i):=by
  have hq:=s.old i g hpos z u;have v:(i==0)=false:=by simp;omega
  have hlt:i<gs.size:=(eS u).1;cases m:q i with
  |zero=>rw [m] at hq;rw [hq.1] at hg;cases hg
  |succ k=>
    rw [m] at hq;rcases hq with ⟨hf,_⟩|⟨_,g',es,hm,n,r⟩
    . rw [hf] at hg;cases hg
    have hrunT:=runT_crowd_go (P:=P) (sl:=sl') (i:=i) u (by rw [v];exact n (w.at d));have hsz:((gs.map (woken P g g' (w.at d))).setIfInBounds i g').size=gs.size:=by simp
    have hsum:sumTo gs.size (upd q i k)+(k+1)=sumTo gs.size q+k:=by
      have:=sumTo_upd q k id hlt;simpa [m] using this
    refine ⟨_,upd q i k,_,hst.trans hrunT,hsz,fun j f=>?_,⟨fun j x f A hx=>?_,fun j f=>?_⟩,c t i _ _ es (by omega) z hP hm,by rw [hsz];omega,fun p a=>by obtain ⟨e,_,rfl⟩:=Conc.mem_ofEvents a;rfl⟩
    . have hne : i ≠ j := fun e => by subst e; rcases f with h | h; · omega
                                      . exact z h
      rw [sN hne,Array.getElem?_map];cases ho:gs[j]? with
      |none=>rfl
      |some o=>simp only [Option.map_some];rw [ft (l j o f ho)]
    . by_cases hji:i=j
      . subst hji
        rw [sS (by simpa using hlt)] at hx;obtain rfl:=oJ hx;rw [upd_same,Conc.Deaf_own];exact r
      . rw [sN hji,Array.getElem?_map] at hx
        obtain ⟨y,hy,rfl⟩:=Option.map_eq_some_iff.1 hx;have hqj:=s.old j y f A hy;rw [ft (ja hqj _),upd_ne q k (Ne.symm hji),Conc.Deaf_other t hji _ (fun p a=>by obtain ⟨e,_,rfl⟩:=Conc.mem_ofEvents a;rfl)];exact hqj
    . rw [Conc.Deaf_other t (g':=i) (by simp at f;omega) _ (fun p a=>by obtain ⟨e,_,rfl⟩:=Conc.mem_ofEvents a;rfl)]
      exact s.above j (by simpa using f)
theorem pM (m:Lv P K t gs q){i:Nat}{a a':Wk}{w':Wj}{es:Array Event}{d:Nat}{sl':Option (Nat×Nat)}(n:gs[i]?=some a)(r:i=0\/K i)(hst:stepT P (crowd gs w sl)=runT P (crowd gs (w.at d) sl') i)(l:stepG P (i==0) a (w.at d)=.go a' w' es):
    ∃b ops,stepT P (crowd gs w sl)=(.next (crowd b w' sl'),ops)/\ops=MemOp.ofEvents i a.frame.fn a.frame.place es/\b.size=gs.size/\b[i]?=some a'/\(∀j o,j≠i->gs[j]?=some o->b[j]?=some (woken P a a' w' o))/\Lv P K (t++ops) b q:=by
  have hrunT:=runT_crowd_go (P:=P) (sl:=sl') (i:=i) n l;have hlt:i<gs.size:=(eS n).1;refine ⟨_,_,hst.trans hrunT,rfl,by simp,by simp [hlt],fun j o f ho=>?_,⟨fun j x f k hx=>?_,fun j f=>?_⟩⟩
  . rw [sN (Ne.symm f),Array.getElem?_map,ho];rfl
  . have hne : i ≠ j := fun e => by subst e; rcases r with h | h; · omega
                                    . exact k h
    rw [sN hne,Array.getElem?_map] at hx;obtain ⟨y,hy,rfl⟩:=Option.map_eq_some_iff.1 hx;have hq:=m.old j y f k hy;rw [ft (ja hq _),Conc.Deaf_other t hne _ (fun p c=>by obtain ⟨e,_,rfl⟩:=Conc.mem_ofEvents c;rfl)];exact hq
  . rw [Conc.Deaf_other t (g':=i) (by simp at f;omega) _ (fun p c=>by obtain ⟨e,_,rfl⟩:=Conc.mem_ofEvents c;rfl)]
    exact m.above j (by simpa using f)
def dg (B:Nat):MemAct->Prop
 | .send c _| .sendDone c _| .recv c _ _| .recvDone c _| .close c| .recvClosed c=>c<B
 |_=>False
theorem dg.low {B:Nat}{a:MemAct}(h:dg B a):a.low B:=by cases a<;>first|exact h|exact h.elim
theorem dg.none {B:Nat}{a:MemAct}(h:dg B a):a.touch?=none:=by cases a<;>first|rfl|exact h.elim
theorem dg.still {B:Nat}{a:MemAct}(h:dg B a):a≠.mark .disable/\a≠.mark .enable:=by cases a<;>first|exact h.elim|exact ⟨by simp,by simp⟩
theorem bF (t:Trace)(g:Nat)(u:Trace)(c:∀b∈u,b.act≠.mark .disable/\b.act≠.mark .enable):Deaf (t++u) g=Deaf t g:=by
 obtain ⟨l⟩:=u;rw [Conc.Deaf_append];induction l generalizing t with
 |nil=>rfl
 |cons x l ih=>
  have hx:=c x (by simp);have e:Conc.deafStep g (Deaf t g) x=Deaf t g:=by
   obtain ⟨xg,xf,xp,d⟩:=x;cases d with
   |mark m=>cases m<;>first|rfl|exact absurd rfl hx.1|exact absurd rfl hx.2
   |_=>rfl
  rw [List.foldl_cons,e];exact ih t (fun b a=>c b (by simp at a ⊢;exact .inr a))
theorem Lv.put (b:Lv P K t gs q){a:Array Wk}{u:Trace}(e:∀op∈u,op.act≠.mark .disable/\op.act≠.mark .enable)(hsz:a.size=gs.size)(hs:∀j,0<j->¬K j->a[j]?=gs[j]?):Lv P K (t++u) a q:=
 ⟨fun i g c d hg=>by rw [bF t i u e];exact b.old i g c d (by rw [<-hs i c d];exact hg),fun j hj=>by rw [bF t j u e];exact b.above j (by omega)⟩
theorem zF {B:Nat}(h:Past Shun B t){u:Trace}(d:∀c∈u,c.g=0/\dg B c.act):Past Shun B (t++u):=
 h.app0 (fun c a=>(d c a).1) (fun c a b hb=>by rw [(d c a).2.none] at hb;cases hb) (bF t 0 u (fun c a=>(d c a).2.still)) (fun c a=>(d c a).2.low)
theorem Lv.alone (a:Lv P (fun _=>False) t gs q)(r:Nat)(b:Bool):partners (gs.setIfInBounds 0 ph) r b=[]:=by
 refine Conc.partners_nil (fun j x hx=>?_);rcases Conc.getElem?_stand gs 0 j x hx with ⟨-,rfl⟩|⟨hne,hx⟩
 .exact Conc.offersAt_ph r b
 .refine Conc.offersAt_of_not_blocked (fun e=>?_) r b;rcases (a.old j x (by omega) (fun k=>k) hx).status with h|h<;>rw [h] at e<;>cases e
end
def gJ:Loc->Prop:=fun _=>False
theorem jD {ρ:Ren}{V W:Wj}(S:bI ρ V W){e:Event}(h:iF ρ e):EvL gJ W.heap.size e:=by
 obtain ⟨b,wr,c⟩:=e;cases b with
 |cell a=>
  obtain ⟨x,h1,-⟩:=h;exact ⟨fun _ _ k=>k.elim,by simp,by simp,(S.lt h1).2⟩
 |obj r=>
  obtain ⟨x,h1,-⟩:=h;refine ⟨fun _ _ k=>k.elim,by simp,by simp,?_⟩;have:=(S.lt h1).2;cases wr<;>cases c<;>exact this
 |mark m=>
  have h:RMk m:=h;cases h with
  |extern f=>exact ⟨fun _ _ k=>k.elim,by simp,by simp,trivial⟩
  |noRoom=>exact ⟨fun _ _ k=>k.elim,by simp,by simp,trivial⟩
 |output=>exact ⟨fun _ _ k=>k.elim,by simp,by simp,trivial⟩
 |goroutines=>exact h.elim
inductive LSs (P:Wv)(T:Wk->Wj->Prop):Wk->Wj->Wk->Wj->Prop
 |refl (g:Wk) (w:Wj):LSs P T g w g w
 |step {g g1 g2:Wk} {w w1 w2:Wj} (hT:¬T g w) (τ:Nat->Question->Nat) (d:Nat) (h:LS P g (w.on τ d) g1 w1) (hs:LSs P T g1 w1 g2 w2):LSs P T g w g2 w2
theorem LSs.trans {P:Wv}{T:Wk->Wj->Prop}{a b c:Wk}{u v w:Wj}(h:LSs P T a u b v)(k:LSs P T b v c w):LSs P T a u c w:=by
 induction h with
 |refl=>exact k
 |step hT τ d h _ ih=>exact .step hT τ d h (ih k)
def Quiet (ρ:Ren)(V:Wj):Prop:=ρ.F lp=false/\∀a b o,ρ a b->V.heap[a]?=some o->o.isChan=true->∃n s q tm,o=.chan n #[] true s q tm
theorem Quiet.reach {ρ ρ':Ren}{w w' u u':Wj}(h:Quiet ρ w)(hS:ρ.F fK=false)(R:Reach ρ ρ' w w' u u'):Quiet ρ' u:=⟨by rw [R.le.F];exact h.1,fun a b o c ho hc=>by
 rcases R.chs.only h.1 a o ho hc with k|⟨k,-⟩
 .rcases R.new a b c with k2|⟨k2,-⟩
  .exact h.2 a b o k2 k hc
  .have:=(eS k).1;omega
 .rw [hS] at k;cases k⟩
structure Outer where
 Ko:Nat->Prop
 W0:Wj
 lt:∀b,Ko b->b<W0.heap.size
 R:Nat->Nat->Prop
 pin:Nat->Option (Array Wx)
 bad:TypeId
def Kp (U:Outer)(W:Wj):Prop:=U.W0.heap.size<=W.heap.size/\W.output=U.W0.output/\∀b,U.Ko b->W.heap[b]?=U.W0.heap[b]?
def Off (U:Outer)(ρ:Ren):Prop:=(∀a b,ρ a b->¬U.Ko b)/\(∀a b,U.R a b->ρ a b)/\ρ.pin=U.pin/\ρ.bad=U.bad
theorem Kp.keep {U:Outer}{W W1:Wj}{ρ:Ren}(h:Kp U W)(hO:Off U ρ)(K:Keep ρ W W1):Kp U W1:=
 ⟨lT h.1 K.size,K.output.trans h.2.1,fun b hb=>(K.block b (lL (U.lt b hb) h.1) (fun a ha=>absurd hb (hO.1 a b ha))).trans (h.2.2 b hb)⟩
theorem Off.new {U:Outer}{W:Wj}{ρ ρ':Ren}(hO:Off U ρ)(h:Kp U W)(hle:∀a b,ρ a b->ρ' a b)(hn:∀a b,ρ' a b->ρ a b\/W.heap.size<=b)(hp:ρ'.pin=ρ.pin/\ρ'.bad=ρ.bad):Off U ρ':=⟨fun a b c hb=>by
 rcases hn a b c with k|k
 .exact hO.1 a b k hb
 .have:=U.lt b hb;have:=h.1;omega,fun a b k=>hle a b (hO.2.1 a b k),hp.1.trans hO.2.2.1,hp.2.trans hO.2.2.2⟩
theorem Kp.reach {U:Outer}{ρ ρ':Ren}{w w' u u':Wj}(h:Kp U w'/\Off U ρ)(R:Reach ρ ρ' w w' u u'):Kp U u'/\Off U ρ':=⟨h.1.keep h.2 R.keep,h.2.new h.1 R.le.sub (fun a b k=>(R.new a b k).imp id (·.2)) ⟨R.le.pin,R.le.bad⟩⟩
structure Rel (P:Wv) [Two P](U:Outer)(G:FuncId->Bool)(Y:List Wy)(ρ:Ren)(h g:Wk)(V W:Wj):Prop where
 go:RGo P ρ ([trap P.alt],Y) h g
 sim:bI ρ V W
 gid:GId P ρ
 ext:fD P ρ.F
 calm:ρ.F fK=false
 same:ρ.F=G
 firm:ρ.loose=false/\ρ.wide=false
 quiet:Quiet ρ V
 out:Kp U W/\Off U ρ
section
variable {P:Wv} [Two P]
def ou (P:Wv) [Two P](U:Outer)(G:FuncId->Bool)(Y:List Wy)(Post:Wx->Wj->Prop)(h:Wk)(V:Wj):Prop:=
 ∀ (gs:Array Wk) (g:Wk) (W:Wj) (sl:Option (Nat×Nat)) (t:Trace) (q:Nat->Nat) (ρ:Ren),gs[0]?=some g->Lv P (fun _=>False) t gs q->Past gJ W.heap.size t->Rel P U G Y ρ h g V W->Fin P Post gs W sl t
def uc (P:Wv) [Two P](U:Outer)(G:FuncId->Bool)(Y:List Wy)(T:Wk->Wj->Prop)(Post:Wx->Wj->Prop):Prop:=
 ∀ (f:FuncId) (a a':Array Wx) (fr fr':Wy) (cs b:List Wy) (V W:Wj) (ρ:Ren),Mk ρ.F f=true->RVs ρ a a'/\a.size=2->Rel P U G Y ρ {frame:=fr,callers:=cs,status:=.running,dying:=none} {frame:=fr',callers:=b,status:=.running,dying:=none} V W ->
  Dem P.alt (fun g _=>NB [trap P.alt] g) T {frame:=Frame.enter P.alt f a .normal,callers:=fr::cs,status:=.running,dying:=none} V ->
  (∀h2 V2,LSs P.alt T {frame:=Frame.enter P.alt f a .normal,callers:=fr::cs,status:=.running,dying:=none} V h2 V2->ou P U G Y Post h2 V2) ->
  ∀ (gs:Array Wk) (sl:Option (Nat×Nat)) (t:Trace) (q:Nat->Nat),gs[0]?=some {frame:=Frame.enter P f a' .normal,callers:=fr'::b,status:=.running,dying:=none}->Lv P (fun _=>False) t gs q->Past gJ W.heap.size t->Fin P Post gs W sl t
omit [Two P] in
theorem RFs.nil_of {ρ:Ren}{x:Wy}{l':List Wy}(h:RFs P ρ ([x],[]) [x] l'):l'=[]:=by
 generalize b:(([x],[]):List Wy×List Wy)=X at h;generalize hl:[x]=l at h;cases h with
 |base=>rw [<-b]
 |cons _ _ a=>
  cases hl;subst b;generalize b:(([x],[]):List Wy×List Wy)=X at a;generalize hl:([]:List Wy)=l at a;cases a with
  |base=>rw [<-b] at hl;cases hl
  |cons _ _ _=>cases hl
theorem jE (B:Nat):∀ (t:Trace)(i:Nat)(fn:FuncId)(pos:String)(es:Array Event),i≠0->¬(fun _:Nat=>False) i->Past gJ B t->(∀e∈es,e.mute=true)->Past gJ B (t++MemOp.ofEvents i fn pos es):=
 fun _ _ _ _ _ a _ h hm=>h.mute a hm
def Leaf (P:Wv) [Two P](U:Outer)(G:FuncId->Bool)(T:Wk->Wj->Prop)(Post:Wx->Wj->Prop):Prop:=
 ∀ (h g:Wk) (V W:Wj) (ρ:Ren),T h V->Rel P U G [] ρ h g V W->∀d,∃v es ρ' V' W',stepG P true g (W.at d)=.ended (.done v) W' es/\Post v W'/\bI ρ' V' W'/\W.heap.size<=W'.heap.size/\∀e∈es,iF ρ' e
theorem pN {ρ:Ren}{V W:Wj}(S:bI ρ V W){c c':CommCase}(k:RC ρ c c'){r cap j f:Nat}{buf:Array Wx}{cl tm:Bool}(hc:c.chan=.chan (some r))(ho:V.heap[r]?=some (.chan cap buf cl j f tm)):
  ∃r' a buf' b d e,c'.chan=.chan (some r')/\ρ r r'/\W.heap[r']?=some (.chan a buf' b d e tm)/\(ρ.loose=true\/RVs ρ buf buf')/\(ρ.wide=true\/cl=b)/\¬ρ.old r:=by
 have h:=k.chan;rw [hc] at h;generalize c'.chan=x at h;cases h with
 |chan h=>
  cases h with
  | @some _ r' h=>
   obtain ⟨o,o',k1,k2,k3⟩:=S.obj _ _ h;rw [ho] at k1;cases k1;cases k3 with
   |chan _ a _ b _ _ s' q' _ hb hcl=>
    refine ⟨r',a,_,b,s',q',rfl,h,k2,hb,hcl,fun i=>?_⟩;obtain ⟨o,f1,f2⟩:=S.fix _ i;rw [ho] at f1;cases f1;exact f2
theorem vr {c:CommCase}{r:Nat}(h:c.chan=.chan (some r))(hs:c.send=none):c=rcase r c.zero:=by
 obtain ⟨a,b,z⟩:=c;simp only at h hs;subst h;subst hs;rfl
theorem zG {U:Outer}{T:Wk->Wj->Prop}{Post:Wx->Wj->Prop}{G:FuncId->Bool}(b:Leaf P U G T Post):∀h V,T h V->ou P U G [] Post h V:=by
 have p:∀ (gs:Array Wk) (g:Wk) (w:Wj),gs[0]?=some g->g.status=.running->∀j o,(j=0\/False)->gs[j]?=some o->o.again w=o:=fun gs g w h0 hr j o f ho=>by
  rcases f with rfl|f
  .rw [h0] at ho;cases ho;exact Conc.again_running _ (.inl hr)
  .exact f.elim
 have r:∀ (gs:Array Wk) (g:Wk) (t:Trace) (q:Nat->Nat),gs[0]?=some g->g.status=.running->Lv P (fun _=>False) t gs q->∀x∈gs,awake x:=fun gs g t q h0 hr m x hx=>by
  obtain ⟨i,c,rfl⟩:=Array.mem_iff_getElem.1 hx;rcases Nat.eq_zero_or_pos i with rfl|hpos
  .have:gs[0]=g:=by simpa [eG c] using h0
   rw [this];exact Conc.awake_of (.inl hr)
  .exact Conc.awake_of ((m.old i _ hpos (fun k=>k) (eG c)).status.elim .inl fun x=>.inr (.inr x))
 intro h V A;intro gs g W sl t q ρ h0 m hP a;obtain ⟨M,hM⟩:∃M,sumTo gs.size q<=M:=⟨_,lR _⟩;induction M using Nat.strongRecOn generalizing gs W sl t q with
 |_ M ih=>
  have hr:=a.go.status.2;obtain ⟨i,x,d,sl',c,hx,hst⟩:=crowd_pick (P:=P) (w:=W) (sl:=sl) (r gs g t q h0 hr m) ⟨0,g,h0,hr⟩;rcases Nat.eq_zero_or_pos i with rfl|hpos
  .obtain rfl:x=g:=by rw [h0] at c;exact (oJ c).symm
   obtain ⟨v,es,ρ',V',W',he,l,n,hsz,u⟩:=b h x V W ρ A a d;have hrunT:=Conc.runT_many_ended (P:=P) (sl:=sl') (i:=0) c (show stepG P (0==0) x (W.at d)=_ from he);have hP':=(hP.mono hsz).own (fn:=x.frame.fn) (pos:=x.frame.place) (fun e he=>jD n (u e he));refine Fin.last (hst.trans hrunT) ⟨v,rfl,l,hP'.clean,hP'.over,⟨fun y hy=>?_,rfl⟩,fun j y hy f=>?_⟩
   .obtain ⟨j,f⟩:=List.mem_iff_getElem?.1 hy;rw [List.getElem?_drop] at f;exact ⟨_,(m.old (1+j) y (by omega) (fun k=>k) (by simpa [crowd] using f)).leaves⟩
   .have hq:=m.old j y (by omega) (fun k=>k) hy;refine ⟨q j,?_⟩;have e:(t++MemOp.ofEvents 0 x.frame.fn x.frame.place es).deaf j (t++MemOp.ofEvents 0 x.frame.fn x.frame.place es).size=Deaf t j:=
     Conc.Deaf_other t (g:=j) (g':=0) (by omega) _ (fun op s=>by obtain ⟨e,_,rfl⟩:=Conc.mem_ofEvents s;rfl)
    rw [e];exact hq.hears _
  .obtain ⟨z,q',ops,e1,e2,e3,e4,e5,e6,-⟩:=slip m hP (jE W.heap.size) c hx hpos (fun k=>k) (p gs g _ h0 hr) hst;exact Fin.next e1 (ih _ (by omega) z (W.at d) sl' (t++ops) q' ((e3 0 (.inl rfl)).trans h0) e4 e5 ⟨a.go,⟨a.sim.obj,a.sim.fix,a.sim.chan,a.sim.os,a.sim.pin⟩,a.gid,a.ext,a.calm,a.same,a.firm,a.quiet,a.out⟩ (lR _))
theorem ED (hZ:bM P)(hN:bV P){U:Outer}{T:Wk->Wj->Prop}{Post:Wx->Wj->Prop}{G:FuncId->Bool}{Y:List Wy}(X:∀h V,T h V->ou P U G Y Post h V)(hap:uc P U G Y T Post){h:Wk}{V:Wj}(hD:Dem P.alt (fun g _=>NB [trap P.alt] g) T h V):∀h2 V2,LSs P.alt T h V h2 V2->ou P U G Y Post h2 V2:=by
 have ap:∀ (gs:Array Wk) (g:Wk) (w:Wj),gs[0]?=some g->g.status=.running->∀j o,(j=0\/False)->gs[j]?=some o->o.again w=o:=fun gs g w h0 hr j o hj ho=>by
  rcases hj with rfl|hj
  .rw [h0] at ho;cases ho;exact Conc.again_running _ (.inl hr)
  .exact hj.elim
 have a1:∀ (gs:Array Wk) (g:Wk) (t:Trace) (q:Nat->Nat),gs[0]?=some g->g.status=.running->Lv P (fun _=>False) t gs q->∀x∈gs,awake x:=fun gs g t q h0 hr N x hx=>by
  obtain ⟨i,J,rfl⟩:=Array.mem_iff_getElem.1 hx;rcases Nat.eq_zero_or_pos i with rfl|hpos
  .have:gs[0]=g:=by simpa [eG J] using h0
   rw [this];exact Conc.awake_of (.inl hr)
  .exact Conc.awake_of ((N.old i _ hpos (fun k=>k) (eG J)).status.elim .inl fun x=>.inr (.inr x))
 induction hD with
 | @stop h V hT=>
  intro h2 V2 hs;cases hs with
  |step ac _ _ _ _=>exact absurd hT ac
  |refl=>exact X _ _ hT
 | @step h V a0 hT a5 hn L=>
  intro h2 V2 hs;cases hs with
  |step ac τ d hl hs=>exact L τ d _ _ hl h2 V2 hs
  |refl=>
   intro gs g W sl t q ρ h0 N hP b;obtain ⟨M,hM⟩:∃M,sumTo gs.size q<=M:=⟨_,lR _⟩;induction M using Nat.strongRecOn generalizing gs W sl t q with
   |_ M ih=>
    have hr:=b.go.status.2;obtain ⟨i,x,d,sl',J,hx,hst⟩:=crowd_pick (P:=P) (w:=W) (sl:=sl) (a1 gs g t q h0 hr N) ⟨0,g,h0,hr⟩;rcases Nat.eq_zero_or_pos i with rfl|hpos
    .obtain rfl:x=g:=by rw [h0] at J;exact (oJ J).symm
     have S:bI ρ (V.on W.tape d) (W.at d):=⟨b.sim.obj,b.sim.fix,b.sim.chan,b.sim.os,b.sim.pin⟩;have hin:Base ([trap P.alt],Y) h.frame x.callers:=fun e=>a0 (b.go.callers.tail e)
     have sf:=iK hZ b.ext hN b.gid true b.go hin S (fun i=>rfl);obtain ⟨h',V',D⟩:=a5 W.tape d;have hcalm:=b.calm;rcases sf.rel with ⟨-,s⟩|⟨B,l⟩|⟨f,ρ',a,a',fr,fr',cs,a3,u,u',es,es',A⟩
     .cases D with
      |go e hr2 O=>
       have s:Lost (stepG P.alt true h (V.on W.tape d)):=s;rw [e] at s;obtain ⟨⟨_,_,e2,-⟩,-⟩:=s;rw [O] at e2;cases e2
      |comm e _=>
       have s:Lost (stepG P.alt true h (V.on W.tape d)):=s;rw [e] at s;exact s.elim
     .have B:stepG P.alt true h (V.on W.tape d)=stepG P true h (V.on W.tape d):=B;have hls0:=D;cases D with
      | @go _ _ es e hr2 O=>
       rw [B] at e;have l:de P ρ ([trap P.alt],Y) (V.on W.tape d) (W.at d) (stepG P true h (V.on W.tape d)) (stepG P true x (W.at d)):=l;rw [e] at l;generalize hy:stepG P true x (W.at d)=y at l;cases l with
       | @go _ g' _ W' _ es' ρ' R hg he=>
        obtain ⟨E,ops,e1,e2,e3,e4,-,e6⟩:=pM N J (.inl rfl) hst (show stepG P (0==0) x (W.at d)=_ from hy);subst e2;have hP':=(hP.mono (show W.heap.size<=W'.heap.size from R.keep.size)).own (fn:=x.frame.fn) (pos:=x.frame.place) (fun e k=>jD R.sim (he e k));exact Fin.next e1 (L W.tape d _ _ hls0 _ _ (.refl _ _) E g' W' sl' _ q ρ' e4 e6 hP' ⟨hg,R.sim,b.gid.mono R.le,by rw [R.le.F];exact b.ext,by rw [R.le.F];exact hcalm,R.le.F.trans b.same,⟨R.le.loose.trans b.firm.1,R.le.wide.trans b.firm.2⟩,Quiet.reach (w:=V.on W.tape d) b.quiet hcalm R,Kp.reach (w':=W.at d) b.out R⟩)
      | @comm h1 c sh V1 es _ _ e hc=>
       rw [B] at e;have l:de P ρ ([trap P.alt],Y) (V.on W.tape d) (W.at d) (stepG P true h (V.on W.tape d)) (stepG P true x (W.at d)):=l;rw [e] at l;generalize hy:stepG P true x (W.at d)=y at l;cases l with
       | @comm _ g' _ c' hC _ hsh hrun _ W1 _ es' ρ' R hg hcc he _=>
        have hsend:c.send=none:=by
         cases hx:c.send with
         |none=>rfl
         |some v=>rw [hC.1 (by rw [hx];rfl)] at hcalm;cases hcalm
        have K:c'.send=none:=by
         rcases hcc.send with ⟨-,k⟩|⟨v,_,k,-⟩
         .exact k
         .rw [hsend] at k;cases k
        have I:ρ'.F fK=false:=by rw [R.le.F];exact hcalm
        have z:Quiet ρ' V1:=Quiet.reach (w:=V.on W.tape d) b.quiet hcalm R;have p:ρ'.loose=false/\ρ'.wide=false:=⟨R.le.loose.trans b.firm.1,R.le.wide.trans b.firm.2⟩;have hP1:=(hP.mono (show W.heap.size<=W1.heap.size from R.keep.size)).own (fn:=x.frame.fn) (pos:=x.frame.place) (fun e k=>jD R.sim (he e k));have Q:∀H∈MemOp.ofEvents 0 x.frame.fn x.frame.place es',H.act≠.mark .disable/\H.act≠.mark .enable:=fun H C=>by
         obtain ⟨e,k,rfl⟩:=Conc.mem_ofEvents C;have k:=he e k;obtain ⟨a2,wr,sy⟩:=e;cases a2 with
         |mark m=>cases (show RMk m from k)<;>exact ⟨by simp [MemAct.ofEvent],by simp [MemAct.ofEvent]⟩
         |goroutines=>exact k.elim
         |_=>cases wr<;>cases sy<;>exact ⟨by simp [MemAct.ofEvent],by simp [MemAct.ofEvent]⟩
        have af:0<gs.size:=(eS h0).1;have Z:∀ (g2:Wk) (W2:Wj) (u:Trace),runT P (crowd gs (W.at d) sl') 0=(.next (crowd (gs.setIfInBounds 0 g2) W2 sl'),MemOp.ofEvents 0 x.frame.fn x.frame.place es'++u)->(∀H∈u,H.g=0/\dg W1.heap.size H.act)->W2.heap.size=W1.heap.size->Rel P U G Y ρ' _ g2 _ W2->Fin P Post gs W sl t:=fun g2 W2 u hrt hu hsz a4=>by
         refine Fin.next (hst.trans hrt) (L W.tape d _ _ hls0 _ _ (.refl _ _) (gs.setIfInBounds 0 g2) g2 W2 sl' _ q ρ' (by simp [af]) ?_ ?_ a4)
         .refine N.put (fun H C=>?_) (by simp) (fun j hj _=>by rw [sN (by omega)]);rcases Array.mem_append.1 C with k|k
          .exact Q H k
          .exact (hu H k).2.still
         .rw [<-Array.append_assoc,hsz];exact zF hP1 hu
        cases hc with
        |send k1 k2 k3 k4=>rw [hsend] at k2;cases k2
        |dead k1 k2 k3=>rw [hsend] at k2;cases k2
        | @recv r cap ad al buf cl tm k1 k2 k3 k4=>
         exfalso;obtain ⟨r',ab,buf',ar,s',q',m1,m2,m3,m4,m5,m6⟩:=pN R.sim hcc k1 k3;obtain ⟨n,s0,q0,tm0,e0⟩:=z.2 r r' _ m2 k3 rfl;cases e0;simp at k4
        | @shut r cap ad al tm k1 k2 k3=>
         obtain ⟨r',ab,buf',ar,s',q',m1,m2,m3,m4,m5,m6⟩:=pN R.sim hcc k1 k3;have m4:RVs ρ' #[] buf':=m4.resolve_left (by rw [p.1];exact fun h=>by cases h);obtain rfl:=m5.resolve_left (by rw [p.2];exact fun h=>by cases h);obtain rfl:buf'=#[]:=Array.eq_empty_of_size_eq_zero (by rw [<-m4.size];rfl);have hc':=vr m1 K;have hlt:=(R.sim.lt m2).2;rw [hc'] at hy;refine Z _ _ _ (Conc.crowd_recv_closed (i:=0) J (show stepG P (0==0) x (W.at d)=_ from hy) m3 (N.alone r' true)) (fun H C=>?_) rfl ⟨?_,R.sim,b.gid.mono R.le,by rw [R.le.F];exact b.ext,I,R.le.F.trans b.same,p,z,Kp.reach (w':=W.at d) b.out R⟩
         .simp at C;subst C;exact ⟨rfl,hlt⟩
         .rw [<-hc'];exact dz hg hcc sh hsh hcc.zero false
     .have hls0:=D;have ho:stepG P.alt true h (V.on W.tape d)=_:=A.other;cases D with
      |comm e _=>rw [ho] at e;cases e
      |go e hr2 O=>
       rw [ho] at e;cases e;have av:stepG P true x (W.at d)=_:=A.there;obtain ⟨E,ops,e1,e2,e3,e4,-,e6⟩:=pM N J (.inl rfl) hst (show stepG P (0==0) x (W.at d)=_ from av);subst e2;have hP':=(hP.mono (show W.heap.size<=u'.heap.size from A.reach.keep.size)).own (fn:=x.frame.fn) (pos:=x.frame.place) (fun e k=>jD A.reach.sim (A.ev e k));have hle:=A.reach.le;refine Fin.next e1 (hap f a a' fr fr' cs a3 _ u' ρ' (by rw [hle.F];exact A.mark) A.args ⟨⟨A.frame,A.callers,A.kind,⟨rfl,rfl⟩,⟨rfl,rfl⟩,rfl,rfl⟩,A.reach.sim,b.gid.mono hle,by rw [hle.F];exact b.ext,by rw [hle.F];exact hcalm,hle.F.trans b.same,⟨hle.loose.trans b.firm.1,hle.wide.trans b.firm.2⟩,Quiet.reach (w:=V.on W.tape d) b.quiet hcalm A.reach,Kp.reach (w':=W.at d) b.out A.reach⟩ (hn _ _ _ _ hls0) (fun h2 V2 hs=>L _ _ _ _ hls0 h2 V2 hs) E sl' _ q e4 e6 hP')
    .obtain ⟨E,q',ops,e1,e2,e3,e4,e5,e6,-⟩:=slip N hP (jE W.heap.size) J hx hpos (fun k=>k) (ap gs g _ h0 hr) hst;exact Fin.next e1 (ih _ (by omega) E (W.at d) sl' (t++ops) q' ((e3 0 (.inl rfl)).trans h0) e4 e5 ⟨b.go,⟨b.sim.obj,b.sim.fix,b.sim.chan,b.sim.os,b.sim.pin⟩,b.gid,b.ext,b.calm,b.same,b.firm,b.quiet,b.out⟩ (lR _))
end
end
section
open Go.Conc (crowd Past EvL Deaf QuitsD woken awake crowd_pick runT_crowd_go rcase scase parked ph Knows Before touchAt touch_of touchAt_of getElem?_append_cases getElem?_append_old knows_own noRace_append lt_size_of_getElem?)
def Tk (ρ:Ren)(a:Touch):Prop:=
 match a.loc with
 | .cell b=>∃x,ρ x b.block/\(a.write=true->¬ρ.old x)/\¬ρ.ch x
 | .obj r=>∃x,ρ x r/\(a.write=true->¬ρ.old x)/\(a.kind≠.atomic->¬ρ.ch x)
 |_=>True
theorem Tk.mono {ρ ρ':Ren}(l:ρ.le ρ'){a:Touch}(h:Tk ρ a):Tk ρ' a:=by
 obtain ⟨b,wr,kd⟩:=a;cases b with
 |cell ad=>obtain ⟨x,h1,h2,h3⟩:=h;exact ⟨x,l _ _ h1,by rw [l.old];exact h2,by rw [l.ch];exact h3⟩
 |obj r=>obtain ⟨x,h1,h2,h3⟩:=h;exact ⟨x,l _ _ h1,by rw [l.old];exact h2,by rw [l.ch];exact h3⟩
 |_=>trivial
theorem GU {ρ:Ren}{e:Event}(h:iF ρ e){a:Touch}(ht:(MemAct.ofEvent e).touch?=some a):Tk ρ a:=by
 obtain ⟨b,wr,c⟩:=e;cases b with
 |cell ad=>
  simp only [MemAct.ofEvent,MemAct.touch?,oI] at ht;subst ht;exact h
 |obj r=>
  obtain ⟨x,h1,h2,h3⟩:=h;cases wr<;>cases c<;>simp only [MemAct.ofEvent,MemAct.touch?,oI] at ht<;>first|cases ht;done|(subst ht;exact ⟨x,h1,h2,fun k=>h3 (by first|rfl|exact absurd rfl k)⟩)
 |mark m=>
  have h:RMk m:=h;cases h<;>simp [MemAct.ofEvent,MemAct.touch?] at ht
 |output=>
  simp only [MemAct.ofEvent,MemAct.touch?,oI] at ht;subst ht;trivial
 |goroutines=>exact h.elim
def Far (ρ ρ':Ren):Prop:=∀b x y,ρ x b->ρ' y b->(ρ.old x/\ρ'.old y)\/(ρ.ch x/\ρ'.ch y)
theorem Far.symm {ρ ρ':Ren}(h:Far ρ ρ'):Far ρ' ρ:=fun b x y h1 h2=>(h b y x h2 h1).imp (fun k=>⟨k.2,k.1⟩) (fun k=>⟨k.2,k.1⟩)
theorem Far.no {ρ ρ':Ren}(h:Far ρ ρ'){a b:Touch}(ha:Tk ρ a)(hb:Tk ρ' b)(c:Bool):¬a.conflicts c b:=by
 obtain ⟨la,wa,i⟩:=a;obtain ⟨lb,wb,kb⟩:=b;rintro ⟨h1,h2,h3,h4⟩;simp only at h1 h2 h3 h4;subst h1;cases la with
 |cell ad=>
  obtain ⟨x,x1,x2,d⟩:=ha;obtain ⟨y,y1,e,f⟩:=hb;rcases h _ x y x1 y1 with ⟨k1,k2⟩|⟨k1,-⟩
  .rcases h3 with h3|h3
   .exact x2 h3 k1
   .exact e h3 k2
  .exact d k1
 |obj r=>
  obtain ⟨x,x1,x2,d⟩:=ha;obtain ⟨y,y1,e,f⟩:=hb;rcases h _ x y x1 y1 with ⟨k1,k2⟩|⟨k1,k2⟩
  .rcases h3 with h3|h3
   .exact x2 h3 k1
   .exact e h3 k2
  .have e1:i=.atomic:=Classical.byContradiction fun k=>d k k1
   have e2:kb=.atomic:=Classical.byContradiction fun k=>f k k2
   subst e1;subst e2;rcases h4 with h|h|⟨_,h,_⟩<;>cases h
 |_=>simp [Loc.isMemory] at h2
structure PhT (p q:Nat)(ρ ρ':Ren)(B:Nat)(t:Trace):Prop where
 ne:p≠q
 clean:∀said,¬Race said t
 kp:∀i a,touchAt t i=some a->a.loc.isMemory=true->Knows t p i\/(t.g? i=some q/\Tk ρ' a)
 kq:∀i a,touchAt t i=some a->a.loc.isMemory=true->Knows t q i\/(t.g? i=some p/\Tk ρ a)
 hp:Deaf t p=0
 hq:Deaf t q=0
 seen:∀op∈t,op.act.low B
section
variable {p q:Nat} {ρ ρ' ρ1:Ren} {B B':Nat} {t u:Trace}
theorem PhT.symm (h:PhT p q ρ ρ' B t):PhT q p ρ' ρ B t:=⟨h.ne.symm,h.clean,h.kq,h.kp,h.hq,h.hp,h.seen⟩
theorem g?_old {i g:Nat}(h:t.g? i=some g):(t++u).g? i=some g:=by
 unfold Trace.g? at h ⊢;obtain ⟨x,hx,hg⟩:=Option.map_eq_some_iff.1 h;rw [getElem?_append_old (lt_size_of_getElem? hx),hx];exact congrArg some hg
theorem PhT.app (h:PhT p q ρ ρ' B t)(l:ρ.le ρ1)(hF:Far ρ1 ρ')(o:B<=B')(m:∀d∈u,d.g=p/\d.act.low B'/\(d.act≠.mark .disable/\d.act≠.mark .enable)/\∀a,d.act.touch?=some a->Tk ρ1 a):PhT p q ρ1 ρ' B' (t++u):=by
 refine ⟨h.ne,fun j=>noRace_append (h.clean j) (fun d c=>(m d c).1) (fun i a ha d c b hb hc=>?_),fun i a ha hm=>?_,fun i a ha hm=>?_,?_,?_,fun d c=>?_⟩
 .rcases h.kp i a ha hc.2.1 with k|⟨-,k⟩
  .exact k
  .exact absurd hc (hF.symm.no k ((m d c).2.2.2 b hb) j)
 .obtain ⟨x,hx,e⟩:=touch_of ha;rcases getElem?_append_cases hx with ⟨_,n⟩|⟨_,f⟩
  .exact (h.kp i a (by rw [touchAt_of n];exact e) hm).imp (·.app u) (fun k=>⟨g?_old k.1,k.2⟩)
  .have:=knows_own hx;rw [(m x f).1] at this;exact .inl this
 .obtain ⟨x,hx,e⟩:=touch_of ha;rcases getElem?_append_cases hx with ⟨_,n⟩|⟨_,f⟩
  .exact (h.kq i a (by rw [touchAt_of n];exact e) hm).imp (·.app u) (fun k=>⟨g?_old k.1,k.2.mono l⟩)
  .exact .inr ⟨by simp [Trace.g?,hx,(m x f).1],(m x f).2.2.2 a e⟩
 .rw [bF t p u (fun d c=>(m d c).2.2.1)];exact h.hp
 .rw [bF t q u (fun d c=>(m d c).2.2.1)];exact h.hq
 .rcases Array.mem_append.1 c with k|k
  .exact MemAct.low_mono o (h.seen d k)
  .exact (m d k).2.1
theorem xr {e:Event}(h:iF ρ e):MemAct.ofEvent e≠.mark .disable/\MemAct.ofEvent e≠.mark .enable:=by
 obtain ⟨a,wr,b⟩:=e;cases a with
 |mark m=>cases (show RMk m from h)<;>exact ⟨by simp [MemAct.ofEvent],by simp [MemAct.ofEvent]⟩
 |goroutines=>exact h.elim
 |_=>cases wr<;>cases b<;>exact ⟨by simp [MemAct.ofEvent],by simp [MemAct.ofEvent]⟩
theorem jF {V W:Wj}(S:bI ρ V W){es:Array Event}(b:∀e∈es,iF ρ e)(g:Nat)(fn:FuncId)(pos:String):∀c∈MemOp.ofEvents g fn pos es,c.g=g/\c.act.low W.heap.size/\(c.act≠.mark .disable/\c.act≠.mark .enable)/\∀a,c.act.touch?=some a->Tk ρ a:=fun c d=>by
 obtain ⟨e,he,rfl⟩:=Conc.mem_ofEvents d;exact ⟨rfl,(jD S (b e he)).2.2.2,xr (b e he),fun a ha=>GU (b e he) ha⟩
theorem ud {b:MemOp}(h:dg B b.act):b.act.low B/\(b.act≠.mark .disable/\b.act≠.mark .enable)/\∀a,b.act.touch?=some a->Tk ρ a:=⟨h.low,h.still,fun a ha=>by rw [h.none] at ha;cases ha⟩
theorem PhT.mute (h:PhT p q ρ ρ' B t){g:Nat}(h1:g≠p)(h2:g≠q){fn:FuncId}{pos:String}{es:Array Event}(hm:∀e∈es,e.mute=true):PhT p q ρ ρ' B (t++MemOp.ofEvents g fn pos es):=by
 have j:∀d∈MemOp.ofEvents g fn pos es,d.g=g/\d.act.touch?=none/\d.act.low B:=fun d c=>by
  obtain ⟨e,he,rfl⟩:=Conc.mem_ofEvents c;exact ⟨rfl,Conc.touch_mute (hm e he),Conc.low_mute (hm e he) B⟩
 generalize MemOp.ofEvents g fn pos es=u at j;refine ⟨h.ne,fun n=>noRace_append (h.clean n) (fun d c=>(j d c).1) (fun i a ha d c b hb hc=>by rw [(j d c).2.1] at hb;cases hb),fun i a ha hm=>?_,fun i a ha hm=>?_,?_,?_,fun d c=>?_⟩
 .obtain ⟨x,hx,f⟩:=touch_of ha;rcases getElem?_append_cases hx with ⟨_,l⟩|⟨_,m⟩
  .exact (h.kp i a (by rw [touchAt_of l];exact f) hm).imp (·.app u) (fun k=>⟨g?_old k.1,k.2⟩)
  .rw [(j x m).2.1] at f;cases f
 .obtain ⟨x,hx,f⟩:=touch_of ha;rcases getElem?_append_cases hx with ⟨_,l⟩|⟨_,m⟩
  .exact (h.kq i a (by rw [touchAt_of l];exact f) hm).imp (·.app u) (fun k=>⟨g?_old k.1,k.2⟩)
  .rw [(j x m).2.1] at f;cases f
 .rw [Conc.Deaf_other t h1 u (fun d c=>(j d c).1)];exact h.hp
 .rw [Conc.Deaf_other t h2 u (fun d c=>(j d c).1)];exact h.hq
 .rcases Array.mem_append.1 c with k|k
  .exact h.seen d k
  .exact (j d k).2.2
theorem PhT.start (h:Past gJ B t){k:Nat}(hk:k≠0)(hd:Deaf t k=0){x y:MemOp}(hx:x.g=0/\x.act=.go k)(hy:y.g=k/\y.act=.start):PhT 0 k ρ ρ' B (t++#[x,y]):=by
 have hn:∀d∈(#[x,y]:Trace),d.act.touch?=none/\d.act.low B/\(d.act≠.mark .disable/\d.act≠.mark .enable):=fun d c=>by
  simp at c;rcases c with rfl|rfl
  .rw [hx.2];exact ⟨rfl,trivial,by simp,by simp⟩
  .rw [hy.2];exact ⟨rfl,trivial,by simp,by simp⟩
 have e:t++#[x,y]=(t++#[x])++#[y]:=by apply Array.ext';simp
 have old:∀i a,touchAt (t++#[x,y]) i=some a->touchAt t i=some a:=fun i a ha=>by
  obtain ⟨z,hz,j⟩:=touch_of ha;rcases getElem?_append_cases hz with ⟨_,n⟩|⟨_,m⟩
  .rw [touchAt_of n];exact j
  .rw [(hn z m).1] at j;cases j
 have f:∀i a,touchAt t i=some a->a.loc.isMemory=true->Knows t 0 i:=fun i a ha hm=>(h.known i a ha hm).resolve_right (fun k=>k.1)
 refine ⟨hk.symm,fun l=>?_,fun i a ha hm=>.inl ((f i a (old i a ha) hm).app _),fun i a ha hm=>.inl (ConcN.fork_knows hx hy h.hears hd (f i a (old i a ha) hm)),?_,?_,fun d c=>?_⟩
 .rw [e];refine noRace_append (g:=k) (noRace_append (g:=0) (h.clean l) (fun d c=>by simp at c;subst c;exact hx.1) (fun i a _ d c b hb _=>?_)) (fun d c=>by simp at c;subst c;exact hy.1) (fun i a _ d c b hb _=>?_)
  .simp at c;subst c;rw [hx.2] at hb;cases hb
  .simp at c;subst c;rw [hy.2] at hb;cases hb
 .rw [bF t 0 _ (fun d c=>(hn d c).2.2)];exact h.hears
 .rw [bF t k _ (fun d c=>(hn d c).2.2)];exact hd
 .rcases Array.mem_append.1 c with k|k
  .exact h.seen d k
  .exact (hn d k).2.1
structure PhC (c pc:Nat)(ρ':Ren)(B:Nat)(t:Trace):Prop where
 clean:∀said,¬Race said t
 k0:∀i a,touchAt t i=some a->a.loc.isMemory=true->Knows t 0 i\/(Before t i pc/\Tk ρ' a)
 act:t.act? pc=some (.close c)
 heard:t.heard pc
 h0:Deaf t 0=0
 seen:∀op∈t,op.act.low B
variable {c pc:Nat}
theorem nl {i:Nat}(h:t.heard i):(t++u).heard i:=by
 obtain ⟨g,h1,h2⟩:=h;have hi:i<t.size:=by
  unfold Trace.g? at h1;obtain ⟨x,hx,_⟩:=Option.map_eq_some_iff.1 h1;exact lt_size_of_getElem? hx
 exact ⟨g,g?_old h1,by rw [Conc.deaf_old (by omega)];exact h2⟩
theorem act?_keep {i:Nat}{a:MemAct}(h:t.act? i=some a):(t++u).act? i=some a:=by rw [Conc.act?_old (Conc.lt_of_act? h)];exact h
theorem PhT.close (h:PhT 0 q ρ ρ' B t){y:MemOp}(hy:y.g=q/\y.act=.close c)(hc:c<B):PhC c t.size ρ' B (t++#[y]):=by
 have e:(t++#[y])[t.size]?=some y:=by rw [Array.getElem?_append_right (lR _)];simp
 refine ⟨fun j=>noRace_append (g:=q) (h.clean j) (fun n d=>by simp at d;subst d;exact hy.1) (fun i a _ n d b hb _=>by simp at d;subst d;rw [hy.2] at hb;cases hb),fun i a ha hm=>?_,by rw [Conc.act?_of e,hy.2],⟨q,by simp [Trace.g?,hy.1],by rw [Conc.deaf_old (lR _)];exact h.hq⟩,?_,fun n d=>?_⟩
 .obtain ⟨x,hx,f⟩:=touch_of ha;rcases getElem?_append_cases hx with ⟨o,l⟩|⟨_,m⟩
  .rcases h.kp i a (by rw [touchAt_of l];exact f) hm with k|⟨k1,k2⟩
   .exact .inl (k.app _)
   .refine .inr ⟨.inr (Conc.hb_po o hx e ?_),k2⟩;have:x.g=q:=by simpa [Trace.g?,l] using k1
    rw [this,hy.1]
  .simp at m;subst m;rw [hy.2] at f;cases f
 .rw [bF t 0 _ (fun n d=>by simp at d;subst d;rw [hy.2];exact ⟨by simp,by simp⟩)];exact h.hp
 .rcases Array.mem_append.1 d with k|k
  .exact h.seen n k
  .simp at k;subst k;rw [hy.2];exact hc
theorem PhC.app (h:PhC c pc ρ' B t)(hF:Far ρ1 ρ')(o:B<=B')(j:∀e∈u,e.g=0/\e.act.low B'/\(e.act≠.mark .disable/\e.act≠.mark .enable)/\∀a,e.act.touch?=some a->Tk ρ1 a):PhC c pc ρ' B' (t++u):=by
 refine ⟨fun f=>noRace_append (h.clean f) (fun e d=>(j e d).1) (fun i a ha e d b hb hc=>?_),fun i a ha hm=>?_,act?_keep h.act,nl h.heard,?_,fun e d=>?_⟩
 .rcases h.k0 i a ha hc.2.1 with k|⟨-,k⟩
  .exact k
  .exact absurd hc (hF.symm.no k ((j e d).2.2.2 b hb) f)
 .obtain ⟨x,hx,l⟩:=touch_of ha;rcases getElem?_append_cases hx with ⟨_,m⟩|⟨_,n⟩
  .exact (h.k0 i a (by rw [touchAt_of m];exact l) hm).imp (·.app u) (fun k=>⟨k.1.app u,k.2⟩)
  .have:=knows_own hx;rw [(j x n).1] at this;exact .inl this
 .rw [bF t 0 u (fun e d=>(j e d).2.2.1)];exact h.h0
 .rcases Array.mem_append.1 d with k|k
  .exact MemAct.low_mono o (h.seen e k)
  .exact (j e k).2.1
theorem PhC.mute (h:PhC c pc ρ' B t){g:Nat}(h1:g≠0){fn:FuncId}{pos:String}{es:Array Event}(hm:∀e∈es,e.mute=true):PhC c pc ρ' B (t++MemOp.ofEvents g fn pos es):=by
 have l:∀f∈MemOp.ofEvents g fn pos es,f.g=g/\f.act.touch?=none/\f.act.low B:=fun f d=>by
  obtain ⟨e,he,rfl⟩:=Conc.mem_ofEvents d;exact ⟨rfl,Conc.touch_mute (hm e he),Conc.low_mute (hm e he) B⟩
 generalize MemOp.ofEvents g fn pos es=u at l;refine ⟨fun m=>noRace_append (h.clean m) (fun f d=>(l f d).1) (fun i a ha f d b hb hc=>by rw [(l f d).2.1] at hb;cases hb),fun i a ha hm=>?_,act?_keep h.act,nl h.heard,?_,fun f d=>?_⟩
 .obtain ⟨x,hx,j⟩:=touch_of ha;rcases getElem?_append_cases hx with ⟨_,n⟩|⟨_,o⟩
  .exact (h.k0 i a (by rw [touchAt_of n];exact j) hm).imp (·.app u) (fun k=>⟨k.1.app u,k.2⟩)
  .rw [(l x o).2.1] at j;cases j
 .rw [Conc.Deaf_other t h1 u (fun f d=>(l f d).1)];exact h.h0
 .rcases Array.mem_append.1 d with k|k
  .exact h.seen f k
  .exact (l f k).2.2
theorem PhC.done (h:PhC c pc ρ' B t){y:MemOp}(hy:y.g=0/\y.act=.recvClosed c)(hc:c<B):Past gJ B (t++#[y]):=by
 have f:(t++#[y])[t.size]?=some y:=by rw [Array.getElem?_append_right (lR _)];simp
 have s:(t++#[y]).heard t.size:=⟨0,by simp [Trace.g?,hy.1],by rw [Conc.deaf_old (lR _)];exact h.h0⟩;have n:HappensBefore (t++#[y]) pc t.size:=.single (.inr ⟨.closed (act?_keep h.act) (by rw [Conc.act?_of f,hy.2]),nl h.heard,s⟩);have e:∀i a,touchAt (t++#[y]) i=some a->a.loc.isMemory=true->Knows (t++#[y]) 0 i:=fun i a ha hm=>by
  obtain ⟨x,hx,l⟩:=touch_of ha;rcases getElem?_append_cases hx with ⟨_,r⟩|⟨_,p⟩
  .rcases h.k0 i a (by rw [touchAt_of r];exact l) hm with k|⟨k,-⟩
   .exact k.app _
   .exact ⟨t.size,y,f,hy.1,(k.app _).trans (.inr n)⟩
  .simp at p;subst p;rw [hy.2] at l;cases l
 refine ⟨fun m=>noRace_append (g:=0) (h.clean m) (fun q d=>by simp at d;subst d;exact hy.1) (fun i a _ q d b hb _=>by simp at d;subst d;rw [hy.2] at hb;cases hb),fun i a ha hm=>.inl (e i a ha hm),fun i g hg hne hcn=>?_,?_,fun q d=>?_⟩
 .obtain ⟨a,ha,hm,-⟩:=hcn;obtain ⟨j,z,hz,o,hb⟩:=e i a ha hm;refine ⟨j,by unfold Trace.g?;rw [hz];exact congrArg some o,?_⟩;rcases hb with rfl|hb
  .rw [Trace.g?,hz] at hg;exact absurd (by simpa [o] using hg.symm) hne
  .exact hb
 .rw [bF t 0 _ (fun q d=>by simp at d;subst d;rw [hy.2];exact ⟨by simp,by simp⟩)];exact h.h0
 .rcases Array.mem_append.1 d with k|k
  .exact h.seen q k
  .simp at k;subst k;rw [hy.2];exact hc
end
end
section
open Go.Conc (crowd Past EvL Deaf QuitsD woken awake crowd_pick runT_crowd_go rcase scase parked ph)
theorem xu (p:Wv)(g:Wk)(h:g.callers≠[])(w:Wj):stepG p true g w=stepG p false g w:=by
 obtain ⟨fr,cs,st,dy,of⟩:=g;cases cs with
 |nil=>exact absurd rfl h
 |cons c cs=>
  have e1:∀ (d:Option Dying) (v:Wx) (u:Wj),doReturn p true fr (c::cs) d v u=doReturn p false fr (c::cs) d v u:=fun d v u=>rfl
  have e2:∀ (d:Option Dying),unwind p true fr (c::cs) d w=unwind p false fr (c::cs) d w:=fun d=>by
   unfold unwind;simp only [e1]
  have e3:∀ (d:Option Dying),stepG.exec p true true fr (c::cs) d w=stepG.exec p false true fr (c::cs) d w:=fun d=>by
   unfold stepG.exec;simp only [e1]
  simp only [stepG,e2,e3]
def Flat (v:Wx):Prop:=∀ρ,RV ρ v v/\∀v',RV ρ v v'->v'=v
structure Side (P:Wv) [Two P](X:List Wy×List Wy)(ρ:Ren)(h g:Wk)(V W:Wj)(cV c:Nat)(L:List Wx):Prop where
 go:RGo P ρ X h g
 sim:bI ρ V W
 gid:GId P ρ
 ext:fD P ρ.F
 calm:ρ.F fK=false/\ρ.F lp=false
 loose:ρ.loose=true/\ρ.wide=true
 ch:ρ.ch cV
 pair:ρ cV c
 row:∃n b s q tm,V.heap[cV]?=some (.chan n b true s q tm)/\b.toList=L
structure Snd (P:Wv) [Two P](X:List Wy×List Wy)(ρ:Ren)(h g:Wk)(V W:Wj)(cs c:Nat)(L:List Wx):Prop where
 go:RGo P ρ X h g
 sim:bI ρ V W
 gid:GId P ρ
 ext:fD P ρ.F
 calm:ρ.F FX=false/\ρ.F lp=false
 unmk:∀f,¬Mk ρ.F f=true
 loose:ρ.loose=true/\ρ.wide=false
 ch:∀x,ρ.ch x↔x=cs
 pair:ρ cs c
 row:∃n b s q tm,V.heap[cs]?=some (.chan n b false s q tm)/\b.toList=L
 only:∀ (a n:Nat) b s q tm,V.heap[a]?=some (.chan n b false s q tm)->a=cs
section
variable {P:Wv} [Two P] {X:List Wy×List Wy} {ρ:Ren} {h g h':Wk} {V V' W:Wj} {cV c:Nat} {L:List Wx}
omit [Two P] in
theorem RFs.len1 {ρ:Ren}{X:List Wy×List Wy}{l l':List Wy}(h:RFs P ρ X l l'):X.1.length<=l.length:=by
 induction h with
 |base=>exact lR _
 |cons _ _ _ ih=>simp only [lC];omega
theorem np (n:bM P)(l:bV P)(m:Bool)(c:RGo P ρ X h g)(hb:Base X h.frame g.callers)(S:bI ρ V W)(o:GId P ρ)(p:fD P ρ.F)(d:Nat)(hm:stepG P.alt m h (V.on W.tape d)=stepG P.alt true h (V.on W.tape d))(hl:LS P.alt h (V.on W.tape d) h' V')(hmk:∀f a' fr' k u' es',Mk ρ.F f=true->stepG P m g (W.at d)=.go {frame:=Frame.enter P f a' .normal,callers:=fr'::k,status:=.running,dying:=none} u' es'->False):
  stepG P m h (V.on W.tape d)=stepG P.alt true h (V.on W.tape d)/\de P ρ X (V.on W.tape d) (W.at d) (stepG P.alt true h (V.on W.tape d)) (stepG P m g (W.at d)):=by
 have S':bI ρ (V.on W.tape d) (W.at d):=⟨S.obj,S.fix,S.chan,S.os,S.pin⟩;have sf:=iK n p l o m c hb S' (fun i=>rfl);rcases sf.rel with ⟨-,a⟩|⟨b,hst⟩|⟨f,_,_,_,_,_,_,_,_,_,_,_,A⟩
 .exfalso;have a:Lost (stepG P.alt m h (V.on W.tape d)):=a;rw [hm] at a;cases hl with
  |go e hr2 j=>
   rw [e] at a;obtain ⟨⟨_,_,e2,-⟩,-⟩:=a;rw [j] at e2;cases e2
  |comm e _=>rw [e] at a;exact a.elim
 .have b:stepG P.alt m h (V.on W.tape d)=stepG P m h (V.on W.tape d):=b;have hst:de P ρ X (V.on W.tape d) (W.at d) (stepG P m h (V.on W.tape d)) (stepG P m g (W.at d)):=hst;rw [<-b,hm] at hst;exact ⟨b.symm.trans hm,hst⟩
 .exact (hmk f _ _ _ _ _ A.mark A.there).elim
theorem mF (c:bM P)(b:bV P)(m:Bool)(a:RGo P ρ X h g)(hb:Base X h.frame g.callers)(S:bI ρ V W)(e:GId P ρ)(i:fD P ρ.F)(hmk:∀f,¬Mk ρ.F f=true)(d:Nat)(hm:stepG P.alt m h (V.on W.tape d)=stepG P.alt true h (V.on W.tape d))(hl:LS P.alt h (V.on W.tape d) h' V'):
  stepG P m h (V.on W.tape d)=stepG P.alt true h (V.on W.tape d)/\de P ρ X (V.on W.tape d) (W.at d) (stepG P.alt true h (V.on W.tape d)) (stepG P m g (W.at d)):=
 np c b m a hb S e i d hm hl (fun f _ _ _ _ _ h _=>hmk f h)
omit [Two P] in
theorem bI.other (S:bI ρ V W){W':Wj}{x0 b0:Nat}(h0:ρ x0 b0)(h:W'.os=W.os)(hs:∀x b,ρ x b->b≠b0->W'.heap[b]?=W.heap[b]?)(hc:∀o o',V.heap[x0]?=some o->W.heap[b0]?=some o'->RO ρ o o'->∃f,W'.heap[b0]?=some f/\RO ρ o f)(i:∀c e z,V.heap[x0]?≠some (.cells c e z)):bI ρ V W':=by
 refine ⟨fun a b d=>?_,S.fix,S.chan,h.trans S.os,fun hb a c0 hp=>?_⟩
 rotate_left
 .obtain ⟨b,d,hP⟩:=S.pin hb a c0 hp;refine ⟨b,d,hP.same rfl (hs a b d (fun e=>?_))⟩;subst e;obtain rfl:=ρ.inj _ _ _ d h0;obtain ⟨c,t,z,_,_,k1,-⟩:=hP;exact i c t z k1
 obtain ⟨o,o',h1,h2,h3⟩:=S.obj a b d;by_cases hb:b=b0
 .subst hb;obtain rfl:=ρ.inj _ _ _ d h0;obtain ⟨f,k1,k2⟩:=hc o o' h1 h2 h3;exact ⟨o,f,h1,k1,k2⟩
 .exact ⟨o,o',h1,by rw [hs a b d hb];exact h2,h3⟩
def j7 (W:Wj)(c:Nat)(n:Nat)(b:List Wx)(cl:Bool)(s q:Nat)(tm:Bool):Prop:=∃a,W.heap[c]?=some (.chan n a cl s q tm)/\a.toList=b
theorem Side.rowW (S:Side P X ρ h g V W cV c L):∃n b cl s q tm,j7 W c n b cl s q tm:=by
 obtain ⟨n,b,s,q,tm,h1,h2⟩:=S.row;obtain ⟨o,o',k1,k2,k3⟩:=S.sim.obj _ _ S.pair;rw [h1] at k1;cases k1;cases k3 with
 |chan=>exact ⟨_,_,_,_,_,_,_,k2,rfl⟩
theorem Side.other (S:Side P X ρ h g V W cV c L){W':Wj}(d:W'.os=W.os)(hs:∀x b,ρ x b->b≠c->W'.heap[b]?=W.heap[b]?){n f:Nat}{b b':List Wx}{cl e:Bool}{s q s' q':Nat}{tm:Bool}(h1:j7 W c n b cl s q tm)(h2:j7 W' c f b' e s' q' tm):Side P X ρ h g V W' cV c L:=by
 obtain ⟨a,h1,-⟩:=h1;obtain ⟨a',h2,-⟩:=h2;refine ⟨S.go,S.sim.other S.pair d hs (fun o o' k1 k2 k3=>?_) (fun _ _ _ k=>by obtain ⟨_,_,_,_,_,k2,-⟩:=S.row;rw [k2] at k;cases k),S.gid,S.ext,S.calm,S.loose,S.ch,S.pair,S.row⟩;rw [h1] at k2;cases k2;refine ⟨_,h2,?_⟩;cases k3 with
 |chan=>exact .chan _ _ _ _ _ _ _ _ _ (.inl S.loose.1) (.inl S.loose.2)
 |dead=>obtain ⟨_,_,_,_,_,k,-⟩:=S.row;rw [k] at k1;cases k1
theorem Snd.rowW {cs:Nat}(S:Snd P X ρ h g V W cs c L):∃n b s q tm,j7 W c n b false s q tm:=by
 obtain ⟨n,b,s,q,tm,h1,h2⟩:=S.row;obtain ⟨o,o',k1,k2,k3⟩:=S.sim.obj _ _ S.pair;rw [h1] at k1;cases k1;cases k3 with
 |chan _ _ _ cl' _ _ _ _ _ hb hc=>
  obtain rfl:=hc.resolve_left (by rw [S.loose.2];exact fun h=>by cases h);exact ⟨_,_,_,_,_,_,k2,rfl⟩
theorem Snd.other {cs:Nat}(S:Snd P X ρ h g V W cs c L){W':Wj}(d:W'.os=W.os)(hs:∀x b,ρ x b->b≠c->W'.heap[b]?=W.heap[b]?){n e:Nat}{b b':List Wx}{s q s' q':Nat}{tm:Bool}(h1:j7 W c n b false s q tm)(h2:j7 W' c e b' false s' q' tm):Snd P X ρ h g V W' cs c L:=by
 obtain ⟨a,h1,-⟩:=h1;obtain ⟨a',h2,-⟩:=h2;refine ⟨S.go,S.sim.other S.pair d hs (fun o o' k1 k2 k3=>?_) (fun _ _ _ k=>by obtain ⟨_,_,_,_,_,k2,-⟩:=S.row;rw [k2] at k;cases k),S.gid,S.ext,S.calm,S.unmk,S.loose,S.ch,S.pair,S.row,S.only⟩;rw [h1] at k2;cases k2;refine ⟨_,h2,?_⟩;cases k3 with
 |chan _ _ _ _ _ _ _ _ _ hb hc=>exact .chan _ _ _ _ _ _ _ _ _ (.inl S.loose.1) hc
 |dead=>obtain ⟨_,_,_,_,_,k,-⟩:=S.row;rw [k] at k1;cases k1
theorem Side.stays (S:Side P X ρ h g V W cV c L){W':Wj}(d:W'.os=W.os)(hs:∀x b,ρ x b->b≠c->W'.heap[b]?=W.heap[b]?)(hc:W'.heap[c]?=W.heap[c]?):Side P X ρ h g V W' cV c L:=by
 obtain ⟨n,b,cl,s,q,tm,a,h1,h2⟩:=S.rowW;exact S.other d hs ⟨a,h1,h2⟩ ⟨a,hc.trans h1,h2⟩
theorem Snd.stays {cs:Nat}(S:Snd P X ρ h g V W cs c L){W':Wj}(d:W'.os=W.os)(hs:∀x b,ρ x b->b≠c->W'.heap[b]?=W.heap[b]?)(hc:W'.heap[c]?=W.heap[c]?):Snd P X ρ h g V W' cs c L:=by
 obtain ⟨n,b,s,q,tm,a,h1,h2⟩:=S.rowW;exact S.other d hs ⟨a,h1,h2⟩ ⟨a,hc.trans h1,h2⟩
end
end
section
open Go.Conc (crowd Past EvL Deaf QuitsD woken awake crowd_pick runT_crowd_go rcase scase parked ph)
section
variable {P:Wv} [Two P] {X:List Wy×List Wy} {ρ:Ren} {h1 g1 h:Wk} {V1 V W W':Wj} {cV c:Nat} {L:List Wx} {cc:CommCase} {v z:Wx} {sh:CommShape}
theorem Side.case_ (S:Side P X ρ h1 g1 V1 W cV c L)(a:RC ρ cc (rcase c z)):cc.send=none/\(cc.chan=.chan (some cV)\/cc.chan=.tuple #[]):=by
 refine ⟨?_,?_⟩
 .rcases a.send with ⟨k,-⟩|⟨_,_,-,k,-⟩
  .exact k
  .cases k
 .have:=a.chan;simp only [rcase] at this;generalize cc.chan=x at this;cases this with
  |chan k=>
   cases k with
   |some k=>exact .inl (by rw [ρ.inj _ _ _ k S.pair])
  |dead=>exact .inr rfl
theorem Side.take (S:Side P X ρ h1 g1 V1 W cV c (v::L))(m:RC ρ cc (rcase c z))(u:∃ok,sh=.recv ok)(A:LC P.alt h1 cc sh V1 h V)(hv:Flat v)(x:W'.os=W.os)(hs:∀b,b≠c->W'.heap[b]?=W.heap[b]?){n y:Nat}{b b':List Wx}{cl d:Bool}{s q s' q':Nat}{tm:Bool}(r1:j7 W c n b cl s q tm)(r2:j7 W' c y b' d s' q' tm):
  Side P X ρ h (g1.finishComm P #[rcase c z] sh 0 v true) V W' cV c L:=by
 obtain ⟨f,hch⟩:=S.case_ m;obtain ⟨F,b0,s0,q0,e,e1,e2⟩:=S.row;have D:(cc.send.isSome=true/\sh=.send)\/(cc.send=none/\∃ok,sh=.recv ok):=.inr ⟨f,u⟩;have S2:=S.other x (fun _ b _ hb=>hs b hb) r1 r2;cases A with
 |send k1 k2 k3 k4=>rw [f] at k2;cases k2
 |dead k1 k2 k3=>rw [f] at k2;cases k2
 | @shut r cap t i tm k1 k2 k3=>
  rw [k1] at hch;rcases hch with hch|hch
  .cases hch;rw [e1] at k3;cases k3;simp at e2
  .cases hch
 | @recv r cap t i buf cl tm k1 k2 k3 k4=>
  rw [k1] at hch;rcases hch with hch|hch
  .cases hch;rw [e1] at k3;cases k3;have C:b0.getD 0 Wo=v:=by
    rw [gD,<-gT,e2];rfl
   have B:(b0.extract 1 b0.size).toList=L:=by
    have hl:b0.toList.length=b0.size:=lY;rw [Array.toList_extract,e2] at *;simp at hl ⊢;rw [<-hl];simp
   have hlt:=(S.sim.lt S.pair).1;refine ⟨?_,?_,S.gid,S.ext,S.calm,S.loose,S.ch,S.pair,⟨_,_,_,_,_,sS hlt,B⟩⟩
   .rw [C];exact dz S.go m sh D (hv ρ).1 true
   .obtain ⟨a',r2,-⟩:=r2;have hput:=S2.sim.put S.pair (o:=.chan F (b0.extract 1 b0.size) true s0 (q0+1) e) (o':=.chan y a' d s' q' _) (.chan _ _ _ _ _ _ _ _ _ (.inl S.loose.1) (.inl S.loose.2)) (fun p=>by
     obtain ⟨o,f1,f2⟩:=S.sim.fix _ p;rw [e1] at f1;cases f1;exact f2) (fun _=>rfl) (fun _ _ _ k=>by rw [e1] at k;cases k)
    have htm:e=tm:=by
     obtain ⟨o,o',f1,f2,f3⟩:=S.sim.obj _ _ S.pair;obtain ⟨a,r1,-⟩:=r1;rw [e1] at f1;cases f1;rw [r1] at f2;cases f2;cases f3;rfl
    subst htm;have l:c<W'.heap.size:=(eS r2).1;have e3:W'.heap.setIfInBounds c (.chan y a' d s' q' e)=W'.heap:=by
     apply Array.ext_getElem?;intro j;by_cases E:c=j
     .subst E;rw [sS l,r2]
     .rw [sN E]
    rw [e3] at hput;exact hput
  .cases hch
theorem Side.nothing (S:Side P X ρ h1 g1 V1 W cV c [])(a:RC ρ cc (rcase c z))(d:∃ok,sh=.recv ok)(e:LC P.alt h1 cc sh V1 h V):Side P X ρ h (g1.finishComm P #[rcase c z] sh 0 z false) V W cV c []:=by
 obtain ⟨b,hch⟩:=S.case_ a;obtain ⟨n0,b0,s0,q0,tm0,e1,e2⟩:=S.row;have f:(cc.send.isSome=true/\sh=.send)\/(cc.send=none/\∃ok,sh=.recv ok):=.inr ⟨b,d⟩;cases e with
 |send k1 k2 k3 k4=>rw [b] at k2;cases k2
 |dead k1 k2 k3=>rw [b] at k2;cases k2
 |recv k1 k2 k3 k4=>
  rw [k1] at hch;rcases hch with hch|hch
  .cases hch;rw [e1] at k3;cases k3;have:b0=#[]:=Array.toList_inj.1 (by simpa using e2);rw [this] at k4;simp at k4
  .cases hch
 |shut k1 k2 k3=>exact ⟨dz S.go a sh f a.zero false,S.sim,S.gid,S.ext,S.calm,S.loose,S.ch,S.pair,S.row⟩
end
section
variable {P:Wv} [Two P] {X:List Wy×List Wy} {ρ:Ren} {h1 g1 h:Wk} {V1 V W W':Wj} {cs c:Nat} {L:List Wx} {cc:CommCase} {v z:Wx}
theorem Snd.case_ (S:Snd P X ρ h1 g1 V1 W cs c L)(a:RC ρ cc (scase c v z)):(∃v0,cc.send=some v0/\RV ρ v0 v)/\(cc.chan=.chan (some cs)\/cc.chan=.tuple #[]):=by
 refine ⟨?_,?_⟩
 .rcases a.send with ⟨-,k⟩|⟨v0,v1,k,k2,k3⟩
  .cases k
  .cases k2;exact ⟨v0,k,k3⟩
 .have:=a.chan;simp only [scase] at this;generalize cc.chan=x at this;cases this with
  |chan k=>
   cases k with
   |some k=>exact .inl (by rw [ρ.inj _ _ _ k S.pair])
  |dead=>exact .inr rfl
theorem Snd.push (S:Snd P X ρ h1 g1 V1 W cs c L)(i:RC ρ cc (scase c v z))(u:LC P.alt h1 cc .send V1 h V)(m:W'.os=W.os)(hs:∀b,b≠c->W'.heap[b]?=W.heap[b]?){n t:Nat}{b b':List Wx}{s q s' q':Nat}{tm:Bool}(r1:j7 W c n b false s q tm)(r2:j7 W' c t b' false s' q' tm):
  ∃v0,RV ρ v0 v/\Snd P X ρ h (g1.finishComm P #[scase c v z] .send 0 Wo false) V W' cs c (L++[v0]):=by
 obtain ⟨⟨v0,e,p⟩,hch⟩:=S.case_ i;obtain ⟨A,b0,s0,q0,d,e1,e2⟩:=S.row;have x:(cc.send.isSome=true/\CommShape.send=.send)\/(cc.send=.none/\∃ok,CommShape.send=.recv ok):=.inl ⟨by rw [e];rfl,rfl⟩;have S2:=S.other m (fun _ b _ hb=>hs b hb) r1 r2;cases u with
 |recv k1 k2 k3 k4=>rw [e] at k2;cases k2
 |shut k1 k2 k3=>rw [e] at k2;cases k2
 |dead k1 k2 k3=>
  rw [k1] at hch;rcases hch with hch|hch
  .cases hch;rw [e1] at k3;cases k3
  .cases hch
 | @send r cap sent rcvd buf tm1 v1 k1 k2 k3 k4=>
  rw [e] at k2;cases k2;rw [k1] at hch;rcases hch with hch|hch
  .cases hch;rw [e1] at k3;cases k3;have hlt:=(S.sim.lt S.pair).1;refine ⟨v0,p,?_,?_,S.gid,S.ext,S.calm,S.unmk,S.loose,S.ch,S.pair,⟨_,_,_,_,_,sS hlt,by simp [e2]⟩,fun a n b s q tm ho=>?_⟩
   .exact dz S.go i .send x cW false
   .obtain ⟨a',r2,-⟩:=r2;have htm:d=tm:=by
     obtain ⟨o,o',f1,f2,f3⟩:=S.sim.obj _ _ S.pair;obtain ⟨a,r1,-⟩:=r1;rw [e1] at f1;cases f1;rw [r1] at f2;cases f2;cases f3;rfl
    subst htm;have hput:=S2.sim.put S.pair (o:=.chan A (b0.push v0) false (s0+1) q0 d) (o':=.chan t a' false s' q' d) (.chan _ _ _ _ _ _ _ _ _ (.inl S.loose.1) (.inr rfl)) (fun l=>by
     obtain ⟨o,f1,f2⟩:=S.sim.fix _ l;rw [e1] at f1;cases f1;exact f2) (fun _=>rfl) (fun _ _ _ k=>by rw [e1] at k;cases k)
    have f:c<W'.heap.size:=(eS r2).1;have e3:W'.heap.setIfInBounds c (.chan t a' false s' q' d)=W'.heap:=by
     apply Array.ext_getElem?;intro j;by_cases y:c=j
     .subst y;rw [sS f,r2]
     .rw [sN y]
    rw [e3] at hput;exact hput
   .by_cases ha:cs=a
    .exact ha.symm
    .simp only [sN ha] at ho;exact S.only a n b s q tm ho
  .cases hch
end
structure PhD (P:Wv) where
 T:Wk->Wj->Prop
 Nr:Wk->Wj->Prop
 Tr:Wk->Wj->Prop
 Ns:Wk->Wj->Prop
 Ts:Wk->Wj->Prop
 h0:Wk
 V0:Wj
 k:Nat
 c:Nat
 cV:Nat
 cr:Nat
 cs:Nat
 X:List Wy×List Wy
 Bs:List Wy
 L:List Wx
 R0:Nat->Nat->Prop
 Fp:FuncId->Bool
 Fr:FuncId->Bool
 bo:Nat
 U:Outer
variable {P:Wv} [Two P] (D:PhD P)
def d8 (W:Wj)(c n:Nat)(b:Array Wx)(s q:Nat)(tm:Bool):Wj:=W.setChan c n b true s q tm
structure zH (D:PhD P)(ρ:Ren)(V W:Wj):Prop where
 base:(∀a b,D.R0 a b->ρ a b)/\ρ.F=D.Fp
 all:∀a b o,ρ a b->V.heap[a]?=some o->o.isChan=true->ρ.ch a
 rest:∀a b,ρ.ch a->ρ a b->a≠D.cV->∃n s q tm n' s' q',V.heap[a]?=some (.chan n #[] true s q tm)/\W.heap[b]?=some (.chan n' #[] true s' q' tm)
structure vt (P:Wv) [Two P](D:PhD P)(Post:Wx->Wj->Prop):Prop where
 zero:bM P
 count:bV P
 mark:∀f,Mk D.Fp f=true->∀fn b,P.funcs[f]?=some fn->fn.body=some b->aG P D.Fr b=false
 k0:D.k≠0
 flat:∀v∈D.L,Flat v
 deep:2<=D.X.1.length
 leafT:∀h V,D.T h V->h.callers.length<=1
 nr:∀h V,D.Nr h V->NB [trap P.alt] h
 tr:∀h V,D.Tr h V->NB [trap P.alt] h/\(∀n b s q tm,V.heap[D.cr]?=some (.chan n b true s q tm)->b.toList=[])/\∀τ d,∃h1 cc s V1 es h' V',stepG P.alt true h (V.on τ d)=.comm h1 #[cc] true s V1 es/\LC P.alt h1 cc s V1 h' V'
 ns:∀h V,D.Ns h V->NB [trap P.alt] h
 bs:D.Bs≠[]
 grow:∀h V τ d h' V',D.Ns h V->LS P.alt h (V.on τ d) h' V'->∀n b cl s q tm,V.heap[D.cs]?=some (.chan n b cl s q tm)->∃n' b' cl' s' q' tm',V'.heap[D.cs]?=some (.chan n' b' cl' s' q' tm')/\((b.toList <+:b'.toList/\(cl=true->cl'=true))\/cl'=true)
 ts:∀h V,D.Ts h V->∀n b cl s q tm,V.heap[D.cs]?=some (.chan n b cl s q tm)->cl=false/\b.toList=D.L
 close:∀h V ρ g W,D.Ts h V->Snd P ([trap P.alt],D.Bs) ρ h g V W D.cs D.c D.L->∀n b s q tm,W.heap[D.c]?=some (.chan n b false s q tm)->∃g',mayWake P g=true/\g'.status=.running/\stepG P false g W=.go g' (d8 W D.c n b s q tm) #[⟨.obj D.c,false,true⟩,⟨.obj D.c,true,true⟩]/\∃m,QuitsD P m 0 g'
 fin:∀ρ h g V W n s q tm gs sl t qs,Side P D.X ρ h g V W D.cV D.c []->zH D ρ V W->Kp D.U W/\Off D.U ρ->W.heap[D.c]?=some (.chan n #[] true s q tm)->LSs P.alt D.T D.h0 D.V0 h V->gs[0]?=some g->Lv P (fun _=>False) t gs qs->Past gJ W.heap.size t->Fin P Post gs W sl t
section
variable {D} {Post:Wx->Wj->Prop}
theorem vt.pre (O:vt P D Post){h:Wk}{V:Wj}(hD:Dem P.alt D.Ns D.Ts h V):∀n b cl s q tm,V.heap[D.cs]?=some (.chan n b cl s q tm)->cl=false/\b.toList <+:D.L:=by
 induction hD with
 |stop e=>
  intro n b cl s q tm hr;obtain ⟨h1,h2⟩:=O.ts _ _ e n b cl s q tm hr;exact ⟨h1,h2▸List.prefix_refl _⟩
 | @step g w f e c _ ih=>
  intro n b cl s q tm hr;obtain ⟨h',V',hl⟩:=c w.tape w.drawn;obtain ⟨i,b',a,s',q',d,h1,h2⟩:=O.grow g w _ _ h' V' f hl n b cl s q tm hr;obtain ⟨k1,k2⟩:=ih _ _ h' V' hl i b' a s' q' d h1;rcases h2 with ⟨h2,h3⟩|h2
  rotate_left
  .rw [h2] at k1;cases k1
  refine ⟨?_,h2.trans k2⟩;cases cl with
  |false=>rfl
  |true=>rw [h3 rfl] at k1;cases k1
end
end
section
open Go.Conc (crowd Past EvL Deaf QuitsD woken awake crowd_pick runT_crowd_go rcase scase parked ph)
section
variable {P:Wv} {gs:Array Wk} {w w₁:Wj} {sl:Option (Nat×Nat)} {i j:Nat} {g g₂ gj:Wk} {es:Array Event} {shape shj:CommShape} {blocking:Bool}
 {c cap s r:Nat} {buf:Array Wx} {closed tm:Bool} {v z zj:Wx}
theorem nt (f:gs[i]?=some g)(h:stepG P (i==0) g w=.comm g₂ #[rcase c z] blocking shape w₁ es)(hc:w₁.heap[c]?=some (.chan cap buf closed s r tm))(a:0<buf.size)
  (b:j≠i) (k:gs[j]?=some (parked gj #[scase c v zj] shj)) (hp:partners (gs.setIfInBounds i ph) c true=[(j,0)]):
  runT P (crowd gs w sl) i=(.next (crowd ((gs.setIfInBounds j (gj.finishComm P #[scase c v zj] shj 0 Wo false)).setIfInBounds i (g₂.finishComm P #[rcase c z] shape 0 (buf.getD 0 Wo) true)) (w₁.setChan c cap ((buf.extract 1 buf.size).push v) closed (s+1) (r+1) tm) sl),
   MemOp.ofEvents i g.frame.fn g.frame.place es++#[{g:=i,fn:=g₂.frame.fn,pos:=g₂.frame.place,act:=.recv c r cap},{g:=i,fn:=g₂.frame.fn,pos:=g₂.frame.place,act:=.recvDone c r},
    {g:=j,fn:=gj.frame.fn,pos:=gj.frame.place,act:=.send c s},{g:=j,fn:=gj.frame.fn,pos:=gj.frame.place,act:=.sendDone c s}]):=by
 rw [Conc.runT_crowd_comm f h];have hj':=Conc.stand_get (i:=i) b k;have hfp:=Conc.finishPartner_at P (gs.setIfInBounds i ph) hj' (cs:=#[scase c v zj]) (sh:=shj) rfl 0 Wo;have d:(gs.setIfInBounds i ph).getD j default=parked gj #[scase c v zj] shj:=by rw [gD,hj'];rfl
 have e:offeredValue (gs.setIfInBounds i ph) j 0=v:=by simp [offeredValue,hj',parked,scase]
 simp [communicate,ways,rcase,hc,hp,a,choose,Sem.run,Question.forced,bind,Sem.bind,pure,World.setChan,crowd,hfp,d,e,Conc.set_stand2,scase,parked];rfl
end
def jG (P : Wv) : List PanicEntry := [{ v := .iface P.rt.plainError (strVal "send on closed channel"), recovered := false }]
theorem nu {P:Wv}{gs:Array Wk}{w w₁:Wj}{sl:Option (Nat×Nat)}{i:Nat}{g g₂:Wk}{es:Array Event}{shape:CommShape}{blocking:Bool}{c cap s r:Nat}{buf:Array Wx}{tm:Bool}{v z:Wx}(a:gs[i]?=some g)(h:stepG P (i==0) g w=.comm g₂ #[scase c v z] blocking shape w₁ es)(hc:w₁.heap[c]?=some (.chan cap buf true s r tm)):
  runT P (crowd gs w sl) i=(.next (crowd (gs.setIfInBounds i {g₂ with frame:=g₂.frame.raise (jG P)}) w₁ sl),MemOp.ofEvents i g.frame.fn g.frame.place es):=by
 rw [Conc.runT_crowd_comm a h];simp [communicate,ways,scase,hc,choose,Sem.run,Question.forced,bind,Sem.bind,pure,runtimePanic,goPanic,program,crowd,jG]
variable {P:Wv} [Two P]
structure Moved (ρ ρ' ρr ρr':Ren)(W W1:Wj)(c:Nat)(es:Array Event):Prop where
 le:ρ.le ρ'
 ler:ρr.le ρr'
 new:∀a b,ρ' a b->ρ a b\/W.heap.size<=b
 newr:∀a b,ρr' a b->ρr a b\/W.heap.size<=b
 keep:Keep ρr W W1
 row:W1.heap[c]?=W.heap[c]?
 ev:∀e∈es,iF ρr' e
structure nX (D:PhD P)(ρ ρr:Ren)(W:Wj)(h hr g:Wk)(V Vr:Wj)(L:List Wx):Prop where
 side:Side P D.X ρ h g V W D.cV D.c L
 sideR:Side P ([trap P.alt],D.X.2) ρr hr g Vr W D.cr D.c L
 only:∀ (a:Nat) o,Vr.heap[a]?=some o->o.isChan=true->a=D.cr
 chR:∀x,ρr.ch x->x=D.cr
 unmk:(∀f,¬Mk ρr.F f=true)/\ρr.F=D.Fr
 base:(∀a b,D.R0 a b->ρ a b)/\ρ.F=D.Fp
 all:∀a b o,ρ a b->V.heap[a]?=some o->o.isChan=true->ρ.ch a
 rest:∀a b,ρ.ch a->ρ a b->a≠D.cV->∃n s q tm n' s' q',V.heap[a]?=some (.chan n #[] true s q tm)/\W.heap[b]?=some (.chan n' #[] true s' q' tm)
structure FY (D:PhD P)(ρ ρr:Ren)(W:Wj)(h1 hr1 g1:Wk)(V1 Vr1:Wj)(L:List Wx)(z:Wx)(s:CommShape)(h hr:Wk)(V Vr:Wj):Prop where
 at1:nX D ρ ρr W h1 hr1 g1 V1 Vr1 L
 sh:∃ok,s=.recv ok
 atc:AtC P g1 (rcase D.c z) s
 rc:∃cc,RC ρ cc (rcase D.c z)/\LC P.alt h1 cc s V1 h V
 rcr:∃cc,RC ρr cc (rcase D.c z)/\LC P.alt hr1 cc s Vr1 hr Vr
section
variable {D:PhD P} {Post:Wx->Wj->Prop} {ρ ρr:Ren} {W:Wj} {h hr g:Wk} {V Vr:Wj} {L:List Wx}
omit [Two P] in
theorem LC.only {g g':Wk}{cc:CommCase}{s:CommShape}{V V':Wj}(h:LC P g cc s V g' V'){c0:Nat}(ho:∀ (a:Nat) o,V.heap[a]?=some o->o.isChan=true->a=c0):∀ (a:Nat) o,V'.heap[a]?=some o->o.isChan=true->a=c0:=by
 intro a o b hc;cases h with
 |shut=>exact ho a o b hc
 |dead=>exact ho a o b hc
 | @send r cap d c buf tm v h1 h2 h3 h4=>
  by_cases e:r=a
  .subst e;exact ho _ _ h3 rfl
  .exact ho a o (by simpa [e] using b) hc
 | @recv r cap d c buf cl tm h1 h2 h3 h4=>
  by_cases e:r=a
  .subst e;exact ho _ _ h3 rfl
  .exact ho a o (by simpa [e] using b) hc
theorem vu (O:vt P D Post)(R:nX D ρ ρr W h hr g V Vr L)(ab:NB [trap P.alt] hr)(d:Nat){h' H:Wk}{V' Vr':Wj}(hl:LS P.alt h (V.on W.tape d) h' V')(Y:LS P.alt hr (Vr.on W.tape d) H Vr'):
    ∃g1 W1 es ρ' ρr',Moved ρ ρ' ρr ρr' W W1 D.c es /\
      ((stepG P true g (W.at d)=.go g1 W1 es/\nX D ρ' ρr' W1 h' H g1 V' Vr' L) \/
       (∃h1 I V1 Vr1 z s,stepG P true g (W.at d)=.comm g1 #[rcase D.c z] true s W1 es/\FY D ρ' ρr' W1 h1 I g1 V1 Vr1 L z s h' H V' Vr')):=by
  have S:=R.side;have Sr:=R.sideR;have N:Base ([trap P.alt],D.X.2) hr.frame g.callers:=fun e=>ab (Sr.go.callers.tail e)
  have hb:Base D.X h.frame g.callers:=fun e=>by
    rcases N e with k|k
    . have m1:=Sr.go.frame.mode
      have m2:=S.go.frame.mode;rw [k] at m1;cases hm:g.frame.mode<;>rw [hm] at m1<;>cases m1
      rw [hm] at m2
      left
      generalize h.frame.mode=x at m2;cases m2;rfl
    . right
      have m1:=Sr.go.frame.defers;have m2:=S.go.frame.defers;intro hn;rw [hn] at m2;generalize g.frame.defers=x at m1 m2;cases m2;generalize hr.frame.defers=y at m1 k;cases m1;exact k rfl
  obtain ⟨-,t⟩:=mF O.zero O.count true Sr.go N Sr.sim Sr.gid Sr.ext R.unmk.1 d rfl Y;obtain ⟨-,sv⟩:=np O.zero O.count true S.go hb S.sim S.gid S.ext d rfl hl (fun f a' fr' cs' u' es' hM hst=>by
    have hst:stepG P true g (W.at d)=_:=hst;rw [hst] at t;obtain ⟨-,fn,-,M,-,hbs,-⟩:=S.gid.apart f hM;obtain ⟨b,U⟩:=Option.isSome_iff_exists.1 hbs;have hno:=O.mark f (by rw [<-R.base.2];exact hM) fn b M U;generalize stepG P.alt true hr (Vr.on W.tape d)=z at t;cases t with
    | @go hx _ _ _ _ _ ρ2 R2 hg2 _=>
      have ht:=hg2.frame.todo;have e:(Frame.enter P f a' .normal).todo=[.code b]:=by simp [Frame.enter,M,U]
      simp only [e] at ht;generalize hx.frame.todo=td at ht;cases ht with
      |cons hi _=>
        cases hi with
        |code h=>
          rw [R2.le.F,R.unmk.2,hno] at h;cases h)
  have j:∀ {ρ':Ren},ρ.le ρ'->(ρ'.F fK=false/\ρ'.F lp=false)/\(ρ'.loose=true/\ρ'.wide=true)/\ρ'.ch D.cV:=fun l=>⟨by rw [l.F];exact S.calm,by rw [l.loose,l.wide];exact S.loose,by rw [l.ch];exact S.ch⟩
  have m:∀ {ρ':Ren},ρr.le ρ'->(ρ'.F fK=false/\ρ'.F lp=false)/\(ρ'.loose=true/\ρ'.wide=true)/\ρ'.ch D.cr:=fun l=>⟨by rw [l.F];exact Sr.calm,by rw [l.loose,l.wide];exact Sr.loose,by rw [l.ch];exact Sr.ch⟩
  have A:∀ {ρ':Ren} {u u':Wj},Reach ρ ρ' (V.on W.tape d) (W.at d) u u'->∃n b s q tm,u.heap[D.cV]?=some (.chan n b true s q tm)/\b.toList=L:=fun R=>by
    obtain ⟨n,b,s,q,tm,h1,h2⟩:=S.row;rcases R.chs.row D.cV D.c S.ch S.pair with ⟨k,-⟩|⟨k,-⟩
    . exact ⟨n,b,s,q,tm,k.trans h1,h2⟩
    . rw [S.calm.1] at k;cases k
  have i:∀ {ρ':Ren} {u u':Wj},Reach ρ ρ' (V.on W.tape d) (W.at d) u u'->(∀a b o,ρ' a b->u.heap[a]?=some o->o.isChan=true->ρ'.ch a)/\∀a b,ρ'.ch a->ρ' a b->a≠D.cV->∃n s q tm n' s' q',u.heap[a]?=some (.chan n #[] true s q tm)/\u'.heap[b]?=some (.chan n' #[] true s' q' tm):=fun R1=>by
    refine ⟨fun a b o C ho hc=>?_,fun a b hch C hne=>?_⟩
    . rw [R1.le.ch]
      rcases R1.chs.only S.calm.2 a o ho hc with k|⟨k,-⟩
      . rcases R1.new a b C with k2|⟨k2,-⟩
        . exact R.all a b o k2 k hc
        . have:a<V.heap.size:=(eS k).1
          exact absurd k2 (by show ¬V.heap.size<=a;omega)
      . rw [S.calm.1] at k;cases k
    . rw [R1.le.ch] at hch
      rcases R1.new a b C with k2|⟨k2,-⟩
      . obtain ⟨n,s,q,tm,n',s',q',e1,e2⟩:=R.rest a b hch k2 hne
        rcases R1.chs.row a b hch k2 with ⟨k,k3⟩|⟨k,-⟩
        . exact ⟨n,s,q,tm,n',s',q',k.trans e1,k3.trans e2⟩
        . rw [S.calm.1] at k;cases k
      . obtain ⟨o,e1,-⟩:=S.sim.chan a hch
        have:a<V.heap.size:=(eS e1).1;exact absurd k2 (by show ¬V.heap.size<=a;omega)
  have B:∀ {ρ':Ren} {u u':Wj},Reach ρr ρ' (Vr.on W.tape d) (W.at d) u u'->(∃n b s q tm,u.heap[D.cr]?=some (.chan n b true s q tm)/\b.toList=L)/\u'.heap[D.c]?=W.heap[D.c]?/\∀ (a:Nat) o,u.heap[a]?=some o->o.isChan=true->a=D.cr:=fun R1=>by
    obtain ⟨n,b,s,q,tm,h1,h2⟩:=Sr.row;refine ⟨?_,?_,fun a o ho hc=>?_⟩
    . rcases R1.chs.row D.cr D.c Sr.ch Sr.pair with ⟨k,-⟩|⟨k,-⟩
      . exact ⟨n,b,s,q,tm,k.trans h1,h2⟩
      . rw [Sr.calm.1] at k;cases k
    . rcases R1.chs.row D.cr D.c Sr.ch Sr.pair with ⟨-,k⟩|⟨k,-⟩
      . exact k
      . rw [Sr.calm.1] at k;cases k
    . rcases R1.chs.only Sr.calm.2 a o ho hc with k|⟨k,-⟩
      . exact R.only a o k hc
      . rw [Sr.calm.1] at k;cases k
  cases Y with
  | @go _ _ Z er hr2 hd2=>
    rw [er] at t;generalize hy:stepG P true g (W.at d)=y at t sv;cases t with
    | @go _ g1 _ W1 _ es ρr' R1 hg1 he1=>
      cases hl with
      | @go _ _ ac G hrv hdv=>
        rw [G] at sv;cases sv with
        |go _ ρ' R2 hg2 he2=>
          obtain ⟨k1,k3,k4⟩:=j R2.le;obtain ⟨m1,m3,m4⟩:=m R1.le;obtain ⟨r1,r2,K⟩:=B R1;exact ⟨g1,W1,es,ρ',ρr',⟨R2.le,R1.le,fun a b h=>(R2.new a b h).imp id (·.2),fun a b h=>(R1.new a b h).imp id (·.2),⟨R1.keep.os,R1.keep.output,R1.keep.tape,R1.keep.size,R1.keep.block⟩,r2,he1⟩,.inl ⟨rfl,
            ⟨⟨hg2,R2.sim,S.gid.mono R2.le,by rw [R2.le.F];exact S.ext,k1,k3,k4,R2.le _ _ S.pair,A R2⟩,⟨hg1,R1.sim,Sr.gid.mono R1.le,by rw [R1.le.F];exact Sr.ext,m1,m3,m4,R1.le _ _ Sr.pair,r1⟩,K,(by rw [R1.le.ch];exact R.chR),(by rw [R1.le.F];exact R.unmk),⟨fun a b k=>R2.le _ _ (R.base.1 a b k),R2.le.F.trans R.base.2⟩,(i R2).1,(i R2).2⟩⟩⟩
      |comm G _=>
        rw [G] at sv;cases sv
  | @comm I p s Vr1 Z _ _ er J=>
    rw [er] at t;generalize hy:stepG P true g (W.at d)=y at t sv;cases t with
    | @comm _ g1 _ c' hC _ hsh hrun _ W1 _ es ρr' R1 hg1 hcc1 he1 ha1=>
      cases hl with
      |go G _ _=>rw [G] at sv;cases sv
      | @comm h1 cc sv' V1 ac _ _ G hcv=>
        rw [G] at sv;cases sv with
        |comm hC2 _ hsh2 hrun2 _ ρ' R2 hg2 hcc2 he2 ha2=>
          obtain ⟨k1,k3,k4⟩:=j R2.le;obtain ⟨m1,m3,m4⟩:=m R1.le;obtain ⟨r1,r2,K⟩:=B R1;have r:p.send=none:=by
            cases hx:p.send with
            |none=>rfl
            |some v=>have:=hC.1 (by rw [hx];rfl);rw [Sr.calm.1] at this;cases this
          have Q:c'.send=none:=by
            rcases hcc1.send with ⟨-,k⟩|⟨v,_,k,-⟩
            . exact k
            . rw [r] at k;cases k
          have E:p.chan=.chan (some D.cr):=by
            cases J with
            |send q1 q2 q3 q4=>rw [r] at q2;cases q2
            |dead q1 q2 q3=>rw [r] at q2;cases q2
            |recv q1 q2 q3 q4=>rw [q1,K _ _ q3 rfl]
            |shut q1 q2 q3=>rw [q1,K _ _ q3 rfl]
          have hc':c'=rcase D.c c'.zero:=by
            refine vr ?_ Q;have:=hcc1.chan;rw [E] at this;generalize c'.chan=x at this;cases this with
            |chan k=>cases k with
              |some k=>rw [ρr'.fn _ _ _ k (R1.le _ _ Sr.pair)]
          have T:∃ok,s=.recv ok:=by
            rcases hsh with ⟨k,-⟩|⟨-,k⟩
            . rw [r] at k;cases k
            . exact k
          refine ⟨g1,W1,es,ρ',ρr',⟨R2.le,R1.le,fun a b h=>(R2.new a b h).imp id (·.2),fun a b h=>(R1.new a b h).imp id (·.2),⟨R1.keep.os,R1.keep.output,R1.keep.tape,R1.keep.size,R1.keep.block⟩,r2,he1⟩,.inr ⟨h1,I,V1,Vr1,c'.zero,s,by rw [<-hc'],
            ⟨⟨⟨hg2,R2.sim,S.gid.mono R2.le,by rw [R2.le.F];exact S.ext,k1,k3,k4,R2.le _ _ S.pair,A R2⟩,⟨hg1,R1.sim,Sr.gid.mono R1.le,by rw [R1.le.F];exact Sr.ext,m1,m3,m4,R1.le _ _ Sr.pair,r1⟩,K,(by rw [R1.le.ch];exact R.chR),(by rw [R1.le.F];exact R.unmk),⟨fun a b k=>R2.le _ _ (R.base.1 a b k),R2.le.F.trans R.base.2⟩,(i R2).1,(i R2).2⟩,T,by rw [<-hc'];exact ha1.2.2,⟨cc,by rw [<-hc'];exact hcc2,hcv⟩,⟨p,by rw [<-hc'];exact hcc1,J⟩⟩⟩⟩
structure jH (ρs ρs':Ren)(W W1:Wj)(c:Nat)(es:Array Event):Prop where
 le:ρs.le ρs'
 new:∀a b,ρs' a b->ρs a b\/W.heap.size<=b
 keep:Keep ρs W W1
 row:W1.heap[c]?=W.heap[c]?
 ev:∀e∈es,iF ρs' e
theorem Cq (O:vt P D Post){ρs:Ren}{hs s:Wk}{Vs:Wj}(S:Snd P ([trap P.alt],D.Bs) ρs hs s Vs W D.cs D.c L)(H:NB [trap P.alt] hs)(d:Nat){m:Wk}{Vs':Wj}(hl:LS P.alt hs (Vs.on W.tape d) m Vs')(A:∀n b cl s q tm,Vs'.heap[D.cs]?=some (.chan n b cl s q tm)->cl=false):
    ∃s1 W1 es ρs',jH ρs ρs' W W1 D.c es /\
      ((stepG P false s (W.at d)=.go s1 W1 es/\Snd P ([trap P.alt],D.Bs) ρs' m s1 Vs' W1 D.cs D.c L) \/
       (∃h1 V1 cc v z,stepG P false s (W.at d)=.comm s1 #[scase D.c v z] true .send W1 es/\Snd P ([trap P.alt],D.Bs) ρs' h1 s1 V1 W1 D.cs D.c L/\RC ρs' cc (scase D.c v z)/\LC P.alt h1 cc .send V1 m Vs') \/
       (∃r v z n b s' q tm,stepG P false s (W.at d)=.comm s1 #[scase r v z] true .send W1 es/\W1.heap[r]?=some (.chan n b true s' q tm)/\Snd P ([trap P.alt],D.Bs) ρs' m {s1 with frame:=s1.frame.raise (jG P)} Vs' W1 D.cs D.c L)):=by
  have hb:Base ([trap P.alt],D.Bs) hs.frame s.callers:=fun e=>H (S.go.callers.tail e)
  have hne:hs.callers≠[]:=fun e=>by
    have:=S.go.callers.len1;rw [e] at this;simp at this
  obtain ⟨-,B⟩:=mF O.zero O.count false S.go hb S.sim S.gid S.ext S.unmk d (xu _ _ hne _).symm hl;have o:∀ {ρ':Ren},ρs.le ρ'->(ρ'.F FX=false/\ρ'.F lp=false)/\(∀f,¬Mk ρ'.F f=true)/\(ρ'.loose=true/\ρ'.wide=false)/\∀x,ρ'.ch x↔x=D.cs:=fun l=>⟨by rw [l.F];exact S.calm,by rw [l.F];exact S.unmk,by rw [l.loose,l.wide];exact S.loose,by rw [l.ch];exact S.ch⟩
  have p:∀ {ρ':Ren} {u u':Wj},Reach ρs ρ' (Vs.on W.tape d) (W.at d) u u'->(∀n b s q tm,u.heap[D.cs]?=some (.chan n b true s q tm)->False)->(∃n b s q tm,u.heap[D.cs]?=some (.chan n b false s q tm)/\b.toList=L)/\u'.heap[D.c]?=W.heap[D.c]?/\∀ (a n:Nat) b s q tm,u.heap[a]?=some (.chan n b false s q tm)->a=D.cs:=fun R1 hno=>by
    obtain ⟨n,b,s,q,tm,h1,h2⟩:=S.row;have key:=R1.chs.row D.cs D.c ((S.ch _).2 rfl) S.pair;refine ⟨?_,?_,fun a n b s q tm ho=>?_⟩
    . rcases key with ⟨k,-⟩|⟨-,_,_,_,_,_,k⟩
      . exact ⟨n,b,s,q,tm,k.trans h1,h2⟩
      . exact (hno _ _ _ _ _ k).elim
    . rcases key with ⟨-,k⟩|⟨-,_,_,_,_,_,k⟩
      . exact k
      . exact (hno _ _ _ _ _ k).elim
    . rcases R1.chs.only S.calm.2 a _ ho rfl with k|⟨-,_,_,_,_,_,k⟩
      . exact S.only a n b s q tm k
      . rw [ho] at k;cases k
  cases hl with
  | @go _ _ J I hr2 hd2=>
    rw [I] at B;generalize hy:stepG P false s (W.at d)=y at B;cases B with
    | @go _ g1 _ W1 _ es ρ' R1 hg1 he1=>
      obtain ⟨m1,m2,m3,G⟩:=o R1.le;obtain ⟨r1,r2,C⟩:=p R1 (fun n b s q tm k=>by cases A _ _ _ _ _ _ k);exact ⟨g1,W1,es,ρ',⟨R1.le,fun a b h=>(R1.new a b h).imp id (·.2),⟨R1.keep.os,R1.keep.output,R1.keep.tape,R1.keep.size,R1.keep.block⟩,r2,he1⟩,.inl ⟨rfl,⟨hg1,R1.sim,S.gid.mono R1.le,by rw [R1.le.F];exact S.ext,m1,m2,m3,G,R1.le _ _ S.pair,r1,C⟩⟩⟩
  | @comm h1 cc sh V1 J _ _ I t=>
    rw [I] at B;generalize hy:stepG P false s (W.at d)=y at B;cases B with
    | @comm _ g1 _ c' hC _ hsh hrun _ W1 _ es ρ' R1 hg1 hcc1 he1 ha1=>
      obtain ⟨m1,m2,m3,G⟩:=o R1.le;have j:cc.send≠none:=fun k=>by have:=hC.2 k;rw [S.calm.1] at this;cases this
      have hno:∀n b s q tm,V1.heap[D.cs]?=some (.chan n b true s q tm)->False:=fun n b s q tm k=>by
        cases t with
        |recv q1 q2 q3 q4=>exact j q2
        |shut q1 q2 q3=>exact j q2
        |dead q1 q2 q3=>cases A _ _ _ _ _ _ k
        | @send r cap sent rcvd buf tm0 v0 q1 q2 q3 q4=>
          by_cases e:r=D.cs
          . subst e;rw [k] at q3;cases q3
          . cases A n b true s q tm (by simpa [e] using k)
      obtain ⟨r1,r2,C⟩:=p R1 hno;have E:sh=.send:=by
        rcases hsh with ⟨-,k⟩|⟨k,-⟩
        . exact k
        . exact absurd k j
      subst E;obtain ⟨v,hv⟩:∃v,c'.send=some v:=by
        rcases hcc1.send with ⟨k,-⟩|⟨_,v,-,k,-⟩
        . exact absurd k j
        . exact ⟨v,k⟩
      have M:jH ρs ρ' W W1 D.c es:=⟨R1.le,fun a b h=>(R1.new a b h).imp id (·.2),⟨R1.keep.os,R1.keep.output,R1.keep.tape,R1.keep.size,R1.keep.block⟩,r2,he1⟩;have K:(∃h' V',m=h'/\Vs'=V'/\cc.chan=.chan (some D.cs))\/(Vs'=V1/\m={h1 with frame:=h1.frame.raise (jG P)}/\∃r n b s q tm,cc.chan=.chan (some r)/\V1.heap[r]?=some (.chan n b true s q tm)):=by
        cases t with
        |recv q1 q2 q3 q4=>exact absurd q2 j
        |shut q1 q2 q3=>exact absurd q2 j
        |send q1 q2 q3 q4=>exact .inl ⟨_,_,rfl,rfl,by rw [q1,C _ _ _ _ _ _ q3]⟩
        |dead q1 q2 q3=>exact .inr ⟨rfl,rfl,_,_,_,_,_,_,q1,q3⟩
      rcases K with ⟨_,_,-,-,i⟩|⟨rfl,rfl,r,n,b,s',q,tm,i,hrow⟩
      rotate_left
      . obtain ⟨r',cap',buf',cl',s'',q'',c1,c2,c3,-,c5,-⟩:=pN R1.sim hcc1 i hrow
        obtain rfl:=c5.resolve_left (by rw [m3.2];exact fun h=>by cases h);have hc':c'=scase r' v c'.zero:=by
          obtain ⟨a,b,z⟩:=c';simp only at c1 hv;subst c1;subst hv;rfl
        refine ⟨g1,W1,es,ρ',M,.inr (.inr ⟨r',v,c'.zero,_,_,_,_,_,by rw [<-hc'],c3,⟨⟨hg1.frame.raise1 (.iface _ (.string _)),hg1.callers,hg1.kind.raise _ _,hg1.status,hg1.dying,hg1.offers⟩,R1.sim,S.gid.mono R1.le,by rw [R1.le.F];exact S.ext,m1,m2,m3,G,R1.le _ _ S.pair,r1,C⟩⟩)⟩
      have hc':c'=scase D.c v c'.zero:=by
        have hch:c'.chan=.chan (some D.c):=by
          have:=hcc1.chan;rw [i] at this;generalize c'.chan=x at this;cases this with
          |chan k=>cases k with
            |some k=>rw [ρ'.fn _ _ _ k (R1.le _ _ S.pair)]
        obtain ⟨a,b,z⟩:=c';simp only at hch hv;subst hch;subst hv;rfl
      exact ⟨g1,W1,es,ρ',M,.inr (.inl ⟨h1,V1,cc,v,c'.zero,by rw [<-hc'],⟨hg1,R1.sim,S.gid.mono R1.le,by rw [R1.le.F];exact S.ext,m1,m2,m3,G,R1.le _ _ S.pair,r1,C⟩,by rw [<-hc'];exact hcc1,t⟩)⟩
end
end
section
open Go.Conc (crowd Past EvL Deaf QuitsD woken awake crowd_pick runT_crowd_go rcase scase parked ph)
open Go.ConcN (sumTo upd sumTo_upd upd_ne upd_same)
variable {P:Wv} [Two P] {D:PhD P} {Post:Wx->Wj->Prop}
theorem Moved.far {ρ ρ' ρr ρr' ρs:Ren}{W W1:Wj}{c:Nat}{es:Array Event}(m:Moved ρ ρ' ρr ρr' W W1 c es)(hF:Far ρr ρs)(a:∀y b,ρs y b->b<W.heap.size):Far ρr' ρs:=fun b x y h1 h2=>by
 rcases m.newr x b h1 with k|k
 .rw [m.ler.old,m.ler.ch];exact hF b x y k h2
 .have:=a y b h2;omega
theorem nX.at {ρ ρr:Ren}{W:Wj}{h hr g:Wk}{V Vr:Wj}{L:List Wx}(R:nX D ρ ρr W h hr g V Vr L)(d:Nat):nX D ρ ρr (W.at d) h hr g V Vr L:=⟨R.side.stays rfl (fun _ _ _ _=>rfl) rfl,R.sideR.stays rfl (fun _ _ _ _=>rfl) rfl,R.only,R.chR,R.unmk,R.base,R.all,R.rest⟩
omit [Two P] in
theorem g9 {gs:Array Wk}{t:Trace}{q:Nat->Nat}(b:Lv P (fun _=>False) t gs q){x:Wk}(h0:gs[0]?=some x)(hr:x.status=.running):∀y∈gs,awake y:=fun y hy=>by
 obtain ⟨i,a,rfl⟩:=Array.mem_iff_getElem.1 hy;rcases Nat.eq_zero_or_pos i with rfl|hpos
 .have:gs[0]=x:=by simpa [eG a] using h0
  rw [this];exact Conc.awake_of (.inl hr)
 .exact Conc.awake_of ((b.old i _ hpos (fun k=>k) (eG a)).status.elim .inl fun x=>.inr (.inr x))
theorem firm0 {gs:Array Wk}{x:Wk}(h0:gs[0]?=some x)(hr:x.status=.running)(w:Wj):∀j o,(j=0\/False)->gs[j]?=some o->o.again w=o:=fun j o a ho=>by
 rcases a with rfl|a
 .rw [h0] at ho;cases ho;exact Conc.again_running _ (.inl hr)
 .exact a.elim
theorem nX.run {ρ ρr:Ren}{W:Wj}{h hr g:Wk}{V Vr:Wj}{L:List Wx}(R:nX D ρ ρr W h hr g V Vr L):g.status=.running:=R.side.go.status.2
theorem rm (O:vt P D Post){ρ ρr:Ren}{W:Wj}{h hr g:Wk}{V Vr:Wj}{L:List Wx}(R:nX D ρ ρr W h hr g V Vr L)(hd:Dem P.alt (fun g _=>NB [trap P.alt] g) D.T h V)(hp:LSs P.alt D.T D.h0 D.V0 h V)(d:Nat):
  ∃h' V',LS P.alt h (V.on W.tape d) h' V'/\Dem P.alt (fun g _=>NB [trap P.alt] g) D.T h' V'/\LSs P.alt D.T D.h0 D.V0 h' V':=by
 have b:¬D.T h V:=fun k=>by
  have h1:=O.leafT _ _ k;have h2:=R.side.go.callers.len1;have h3:=O.deep;omega
 cases hd with
 |stop k=>exact absurd k b
 |step _ _ a hn=>
  obtain ⟨h',V',hl⟩:=a W.tape d;exact ⟨h',V',hl,hn _ _ _ _ hl,hp.trans (.step b _ _ hl (.refl _ _))⟩
theorem FY.take (O:vt P D Post){ρ ρr:Ren}{W W':Wj}{h1 m g1 h hr:Wk}{V1 Vr1 V Vr:Wj}{v z:Wx}{L:List Wx}{sh:CommShape}(C:FY D ρ ρr W h1 m g1 V1 Vr1 (v::L) z sh h hr V Vr)(hv:v∈D.L)(j:W'.os=W.os)(hs:∀b,b≠D.c->W'.heap[b]?=W.heap[b]?){n p:Nat}{b b':List Wx}{cl l:Bool}{s q s' q':Nat}{tm:Bool}(r1:j7 W D.c n b cl s q tm)(r2:j7 W' D.c p b' l s' q' tm):
  nX D ρ ρr W' h hr (g1.finishComm P #[rcase D.c z] sh 0 v true) V Vr L:=by
 obtain ⟨cc,c1,c2⟩:=C.rc;obtain ⟨cr,d1,d2⟩:=C.rcr;have f:∀ (a:Nat) (o:Obj),V.heap[a]?=some o->o.isChan=true->∃o1:Obj,V1.heap[a]?=some o1/\o1.isChan=true:=fun a o ho hc=>by
  cases c2 with
  |shut=>exact ⟨o,ho,hc⟩
  |dead=>exact ⟨o,ho,hc⟩
  | @send r _ _ _ _ _ _ k1 k2 k3 k4=>
   by_cases e:r=a
   .subst e;exact ⟨_,k3,rfl⟩
   .exact ⟨o,by simpa [e] using ho,hc⟩
  | @recv r _ _ _ _ _ _ k1 k2 k3 k4=>
   by_cases e:r=a
   .subst e;exact ⟨_,k3,rfl⟩
   .exact ⟨o,by simpa [e] using ho,hc⟩
 have i:∀a:Nat,a≠D.cV->V.heap[a]?=V1.heap[a]?:=fun a ha=>by
  obtain ⟨-,hch⟩:=C.at1.side.case_ c1;have hr:∀r,cc.chan=.chan (some r)->r≠a:=fun r e=>by
   rw [e] at hch;rcases hch with k|k
   .cases k;exact Ne.symm ha
   .cases k
  cases c2 with
  |shut=>rfl
  |dead=>rfl
  |send k1 k2 k3 k4=>simp [hr _ k1]
  |recv k1 k2 k3 k4=>simp [hr _ k1]
 refine ⟨C.at1.side.take c1 C.sh c2 (O.flat v hv) j hs r1 r2,C.at1.sideR.take d1 C.sh d2 (O.flat v hv) j hs r1 r2,d2.only C.at1.only,C.at1.chR,C.at1.unmk,C.at1.base,fun a b o d ho hc=>?_,fun a b hch d hne=>?_⟩
 .obtain ⟨o1,k1,k2⟩:=f a o ho hc;exact C.at1.all a b o1 d k1 k2
 .obtain ⟨n,s,q,tm,p,s',q',e1,e2⟩:=C.at1.rest a b hch d hne;refine ⟨n,s,q,tm,p,s',q',(i a hne).trans e1,?_⟩;rw [hs b (fun e=>hne (ρ.inj _ _ _ d (e▸C.at1.side.pair)))];exact e2
theorem aK (W:Wj)(c n:Nat)(b:Array Wx)(cl:Bool)(s q:Nat)(tm:Bool){j:Nat}(h:j≠c):(W.setChan c n b cl s q tm).heap[j]?=W.heap[j]?:=by
 unfold World.setChan;exact sN (Ne.symm h)
theorem dF (W:Wj)(c n:Nat)(b:Array Wx)(cl:Bool)(s q:Nat)(tm:Bool)(h:c<W.heap.size):j7 (W.setChan c n b cl s q tm) c n b.toList cl s q tm:=⟨b,by unfold World.setChan;exact sS h,rfl⟩
theorem ct (W:Wj)(c n:Nat)(b:Array Wx)(cl:Bool)(s q:Nat)(tm:Bool):(W.setChan c n b cl s q tm).heap.size=W.heap.size:=by simp [World.setChan]
theorem ie (g:Nat)(fn:FuncId)(pos:String):MemOp.ofEvents g fn pos #[]=#[]:=rfl
theorem vv {ρ ρr:Ren}{W:Wj}{h1 a g1 h:Wk}{V1 Vr1 V:Wj}{z:Wx}{sh:CommShape}{cc:CommCase}(R:nX D ρ ρr W h1 a g1 V1 Vr1 [])(b:RC ρ cc (rcase D.c z))(_hsh:∃ok,sh=.recv ok)(d:LC P.alt h1 cc sh V1 h V):zH D ρ V W:=by
 have f:V=V1:=by
  obtain ⟨e,hch⟩:=R.side.case_ b;obtain ⟨n0,b0,s0,q0,tm0,e1,e2⟩:=R.side.row;cases d with
  |send k1 k2 k3 k4=>rw [e] at k2;cases k2
  |dead=>rfl
  |shut=>rfl
  |recv k1 k2 k3 k4=>
   rw [k1] at hch;rcases hch with hch|hch
   .cases hch;rw [e1] at k3;cases k3;have:b0=#[]:=Array.toList_inj.1 (by simpa using e2);rw [this] at k4;simp at k4
   .cases hch
 rw [f];exact ⟨R.base,R.all,R.rest⟩
structure xw (D:PhD P)(ρ ρr:Ren)(W:Wj):Prop where
 kp:Kp D.U W
 off:Off D.U ρ
 offR:Off D.U ρr
 chan:¬D.U.Ko D.c
omit [Two P] in
theorem xw.rcv {D:PhD P}{ρ ρr ρ' ρr':Ren}{W W1:Wj}{es:Array Event}(h:xw D ρ ρr W)(m:Moved ρ ρ' ρr ρr' W W1 D.c es):xw D ρ' ρr' W1:=⟨h.kp.keep h.offR m.keep,h.off.new h.kp m.le.sub m.new ⟨m.le.pin,m.le.bad⟩,h.offR.new h.kp m.ler.sub m.newr ⟨m.ler.pin,m.ler.bad⟩,h.chan⟩
omit [Two P] in
theorem Kp.setChan {U:Outer}{W:Wj}{c:Nat}(h:Kp U W)(hc:¬U.Ko c)(n:Nat)(b:Array Wx)(cl:Bool)(s q:Nat)(tm:Bool):Kp U (W.setChan c n b cl s q tm):=⟨by rw [ct];exact h.1,h.2.1,fun x hx=>(aK (j:=x) _ _ _ _ _ _ _ _ (fun e=>hc (by rw [<-e];exact hx))).trans (h.2.2 x hx)⟩
omit [Two P] in
theorem xw.set {D:PhD P}{ρ ρr:Ren}{W:Wj}(h:xw D ρ ρr W)(n:Nat)(b:Array Wx)(cl:Bool)(s q:Nat)(tm:Bool):xw D ρ ρr (W.setChan D.c n b cl s q tm):=⟨h.kp.setChan h.chan _ _ _ _ _ _,h.off,h.offR,h.chan⟩
theorem ue (O:vt P D Post){ρ ρr ρs:Ren}{h1 o g1 h hr:Wk}{V1 Vr1 V Vr:Wj}{z:Wx}{sh:CommShape}(hp:LSs P.alt D.T D.h0 D.V0 h V){n s q:Nat}{tm:Bool}{pc:Nat}:
  ∀ (M:Nat) (gs:Array Wk) (W:Wj) (sl:Option (Nat×Nat)) (t:Trace) (qs:Nat->Nat),sumTo gs.size qs<=M->FY D ρ ρr W h1 o g1 V1 Vr1 [] z sh h hr V Vr->j7 W D.c n [] true s q tm->xw D ρ ρr W->gs[0]?=some {parked g1 #[rcase D.c z] sh with status:=.running}->Lv P (fun _=>False) t gs qs->PhC D.c pc ρs W.heap.size t->Fin P Post gs W sl t:=by
 intro M;induction M using Nat.strongRecOn with
 |_ M ih=>
  intro gs W sl t qs hM C r b h0 m hP;obtain ⟨i,x,d,sl',f,hx,hst⟩:=crowd_pick (P:=P) (w:=W) (sl:=sl) (g9 m h0 rfl) ⟨0,_,h0,rfl⟩;rcases Nat.eq_zero_or_pos i with rfl|hpos
  .rw [h0] at f;cases f;have e:stepG P (0==0) {parked g1 #[rcase D.c z] sh with status:=.running} (W.at d)=.comm g1 #[rcase D.c z] true sh (W.at d) #[]:=C.atc true (W.at d);obtain ⟨a,hrow,ha⟩:=r;have ha:a=#[]:=Array.toList_inj.1 (by simpa using ha);subst ha;have hrt:=Conc.crowd_recv_closed (sl:=sl') (i:=0) h0 e hrow (m.alone D.c true);rw [ie,Array.empty_append] at hrt;have hlt:D.c<W.heap.size:=(eS hrow).1;obtain ⟨cc,c1,c2⟩:=C.rc;have S:=((C.at1.at d).side).nothing c1 C.sh c2;exact Fin.next (hst.trans hrt) (O.fin ρ h _ V (W.at d) n s q tm _ _ _ qs S (vv (C.at1.at d) c1 C.sh c2) ⟨b.kp,b.off⟩ hrow hp (by simp [(eS h0).1])
    (m.put (fun op l=>by simp at l;subst l;exact ⟨by simp,by simp⟩) (by simp) (fun j hj _=>sN (by omega)))
    (hP.done ⟨rfl,rfl⟩ hlt))
  .obtain ⟨p,q',ops,e1,e2,e3,e4,e5,e6,-⟩:=slip m hP (fun t i fn pos es f _ h hm=>h.mute f hm) f hx hpos (fun k=>k) (firm0 h0 rfl _) hst;exact Fin.next e1 (ih _ (by omega) p (W.at d) sl' (t++ops) q' (lR _) ⟨C.at1.at d,C.sh,C.atc,C.rc,C.rcr⟩ r ⟨b.kp,b.off,b.offR,b.chan⟩ ((e3 0 (.inl rfl)).trans h0) e4 e5)
def eY (P:Wv) [Two P](D:PhD P)(Post:Wx->Wj->Prop)(hr:Wk)(Vr:Wj):Prop:=
 ∀ (gs:Array Wk) (W:Wj) (sl:Option (Nat×Nat)) (t:Trace) (qs:Nat->Nat) (ρ ρr ρs:Ren) (h g:Wk) (V:Wj) (L:List Wx) (n s q:Nat) (tm:Bool) (pc:Nat),nX D ρ ρr W h hr g V Vr L->Dem P.alt (fun g _=>NB [trap P.alt] g) D.T h V->LSs P.alt D.T D.h0 D.V0 h V->(∀v∈L,v∈D.L)->j7 W D.c n L true s q tm->Far ρr ρs->xw D ρ ρr W->(∀y b,ρs y b->b<W.heap.size)->gs[0]?=some g->Lv P (fun _=>False) t gs qs->PhC D.c pc ρs W.heap.size t->Fin P Post gs W sl t
theorem ov (O:vt P D Post){hr:Wk}{Vr:Wj}(S:NB [trap P.alt] hr)(ab:∀τ d,∃l Vr',LS P.alt hr (Vr.on τ d) l Vr')
  (hn:∀τ d l Vr',LS P.alt hr (Vr.on τ d) l Vr'->eY P D Post l Vr'\/((∀n b s q tm,Vr.heap[D.cr]?=some (.chan n b true s q tm)->b.toList=[])/\∃h1 cc s V1 es,stepG P.alt true hr (Vr.on τ d)=.comm h1 cc true s V1 es)):eY P D Post hr Vr:=by
 intro gs W sl t qs ρ ρr ρs h g V L n s q tm pc R hd hp I r hF u T h0 F hP;obtain ⟨M,hM⟩:∃M,sumTo gs.size qs<=M:=⟨_,lR _⟩;induction M using Nat.strongRecOn generalizing gs W sl t qs with
 |_ M ih=>
  obtain ⟨i,x,d,sl',J,hx,hst⟩:=crowd_pick (P:=P) (w:=W) (sl:=sl) (g9 F h0 R.run) ⟨0,_,h0,R.run⟩;rcases Nat.eq_zero_or_pos i with rfl|hpos
  .obtain rfl:x=g:=by rw [h0] at J;exact (oJ J).symm
   obtain ⟨h',V',hl,N,A⟩:=rm O R hd hp d;obtain ⟨l,Vr',H⟩:=ab W.tape d;have hnx:=hn _ _ _ _ H;obtain ⟨g1,W1,es,ρ',ρr',m,B⟩:=vu O R S d hl H;have hF':=m.far hF T;have hsz:W.heap.size<=W1.heap.size:=m.keep.size;have r1:j7 W1 D.c n L true s q tm:=by
    obtain ⟨a,k1,k2⟩:=r;exact ⟨a,m.row.trans k1,k2⟩
   rcases B with ⟨hg,R'⟩|⟨h1,hr1,V1,Vr1,z,sh,hg,C⟩
   .have Z:eY P D Post l Vr':=by
     rcases hnx with k|⟨-,_,_,_,_,_,k⟩
     .exact k
     .exfalso;have U:Base ([trap P.alt],D.X.2) hr.frame x.callers:=fun e=>S (R.sideR.go.callers.tail e)
      obtain ⟨-,sr⟩:=mF O.zero O.count true R.sideR.go U R.sideR.sim R.sideR.gid R.sideR.ext R.unmk.1 d rfl H;rw [k,hg] at sr;cases sr
    obtain ⟨G,ops,e1,e2,e3,e4,-,e6⟩:=pM F J (.inl rfl) hst (show stepG P (0==0) x (W.at d)=_ from hg);subst e2;exact Fin.next e1 (Z G W1 sl' _ qs ρ' ρr' ρs h' g1 V' L n s q tm pc R' N A I r1 hF' (u.rcv m) (fun y b k=>lL (T y b k) hsz) e4 e6 (hP.app hF' hsz (jF R'.sideR.sim m.ev 0 _ _)))
   .obtain ⟨a,ha1,o⟩:=r1;have hlt:D.c<W1.heap.size:=(eS ha1).1;have hev:=jF C.at1.sideR.sim m.ev 0 x.frame.fn x.frame.place;cases L with
    |nil=>
     have ha:a=#[]:=Array.toList_inj.1 (by simpa using o);subst ha;have hrt:=Conc.crowd_recv_closed (sl:=sl') (i:=0) h0 (show stepG P (0==0) x (W.at d)=_ from hg) ha1 (F.alone D.c true);obtain ⟨cc,c1,c2⟩:=C.rc;refine Fin.next (hst.trans hrt) (O.fin ρ' h' _ V' W1 n s q tm _ _ _ qs (C.at1.side.nothing c1 C.sh c2) (vv C.at1 c1 C.sh c2) ⟨(u.rcv m).kp,(u.rcv m).off⟩ ha1 A (by simp [(eS h0).1]) (F.put (fun p f=>?_) (by simp) (fun j hj _=>sN (by omega))) ?_)
     .rcases Array.mem_append.1 f with k|k
      .exact (hev p k).2.2.1
      .simp at k;subst k;exact ⟨by simp,by simp⟩
     .rw [<-Array.append_assoc];exact (hP.app hF' hsz hev).done ⟨rfl,rfl⟩ hlt
    |cons v L=>
     have Z:eY P D Post l Vr':=by
      rcases hnx with k|⟨k,-⟩
      .exact k
      .exfalso;obtain ⟨n0,b0,s0,q0,tm0,k1,k2⟩:=R.sideR.row;rw [k _ _ _ _ _ k1] at k2;cases k2
     have E:0<a.size:=by rw [<-lY,o];simp
     have K:a.getD 0 Wo=v:=by rw [gD,<-gT,o];rfl
     have Q:(a.extract 1 a.size).toList=L:=by
      have hl:a.toList.length=a.size:=lY;rw [Array.toList_extract,o] at *;simp at hl ⊢;rw [<-hl];simp
     have hrt:=Conc.crowd_recv_buf (sl:=sl') (i:=0) h0 (show stepG P (0==0) x (W.at d)=_ from hg) ha1 E (F.alone D.c true);rw [K] at hrt;have r2:=dF W1 D.c n (a.extract 1 a.size) true s (q+1) tm hlt;rw [Q] at r2;have R2:=C.take O (I v (by simp)) (W':=W1.setChan D.c n (a.extract 1 a.size) true s (q+1) tm) rfl (fun b hb=>aK _ _ _ _ _ _ _ _ hb) ⟨a,ha1,o⟩ r2;have Y:∀p∈(#[{g:=0,fn:=g1.frame.fn,pos:=g1.frame.place,act:=.recv D.c q n},{g:=0,fn:=g1.frame.fn,pos:=g1.frame.place,act:=.recvDone D.c q}]:Trace),p.g=0/\dg W1.heap.size p.act:=fun p f=>by
      simp at f;rcases f with rfl|rfl<;>exact ⟨rfl,hlt⟩
     refine Fin.next (hst.trans hrt) (Z _ _ sl' _ qs ρ' ρr' ρs h' _ V' L n s (q+1) tm pc R2 N A (fun v hv=>I v (by simp [hv])) r2 hF' ((u.rcv m).set _ _ _ _ _ _) (fun y b k=>by rw [ct];exact lL (T y b k) hsz) (by simp [(eS h0).1]) (F.put (fun p f=>?_) (by simp) (fun j hj _=>sN (by omega))) ?_)
     .rcases Array.mem_append.1 f with k|k
      .exact (hev p k).2.2.1
      .exact (Y p k).2.still
     .rw [<-Array.append_assoc,ct];exact (hP.app hF' hsz hev).app hF' (lR _) (fun p f=>⟨(Y p f).1,ud (Y p f).2⟩)
  .obtain ⟨G,q',ops,e1,e2,e3,e4,e5,e6,-⟩:=slip F hP (fun t i fn pos es J _ h hm=>h.mute J hm) J hx hpos (fun k=>k) (firm0 h0 R.run _) hst;exact Fin.next e1 (ih _ (by omega) G (W.at d) sl' (t++ops) q' (R.at d) r ⟨u.kp,u.off,u.offR,u.chan⟩ T ((e3 0 (.inl rfl)).trans h0) e4 e5 (lR _))
theorem rn (O:vt P D Post){hr:Wk}{Vr:Wj}(hD:Dem P.alt D.Nr D.Tr hr Vr):eY P D Post hr Vr:=by
 induction hD with
 | @stop g w c=>
  obtain ⟨h1,h2,h3⟩:=O.tr g w c;refine ov O h1 (fun τ d=>?_) (fun τ d a Vr' _=>.inr ⟨h2,?_⟩)
  .obtain ⟨_,_,_,_,_,h',V',e,l⟩:=h3 τ d;exact ⟨h',V',.comm e l⟩
  .obtain ⟨_,_,_,_,_,h',V',e,l⟩:=h3 τ d;exact ⟨_,_,_,_,_,e⟩
 | @step g w f c b _ ih=>exact ov O (O.nr g w f) b (fun τ d a Vr' hl=>.inl (ih τ d a Vr' hl))
def Alone (P:Wv)(bo:Nat)(g:Wk):Nat->Wk->Wj->Prop:=
 Go.Conc.Goes P true (fun w v=>v.heap[bo]?=w.heap[bo]?) (fun w w' es=>w'=w/\∀e∈es,∃a:Wu,e=⟨.cell a,false,false⟩/\a.block=bo) (fun g' _=>g'=g)
section
variable {bo k:Nat} {g y:Wk} {W W1:Wj}
omit [Two P] in
theorem Alone.rely (h:Alone P bo g k y W)(hb:W1.heap[bo]?=W.heap[bo]?):Alone P bo g k y W1:=
 Go.Conc.Goes.rely (fun _ _ _ h k=>k.trans h) h hb
omit [Two P] in
theorem Alone.next (h:Alone P bo g k y W):y=g\/(y.status=.running/\∃k',k=k'+1/\∀d,∃b es,stepG P true y (W.at d)=.go b (W.at d) es/\(∀e∈es,∃a:Wu,e=⟨.cell a,false,false⟩/\a.block=bo)/\Alone P bo g k' b (W.at d)):=by
 cases k with
 |zero=>exact .inl (h W rfl)
 |succ k=>
  rcases h with h|⟨hst,h⟩
  .exact .inl (h W rfl)
  .refine .inr ⟨hst,k,rfl,fun d=>?_⟩;obtain ⟨b,w',es,h1,⟨rfl,h2⟩,h3⟩:=Go.Conc.goes_elim (h (W.at d) rfl);exact ⟨b,es,h1,h2,h3⟩
omit [Two P] in
theorem Alone.status (h:Alone P bo g k y W)(hg:g.status=.running):y.status=.running:=by
 rcases h.next with rfl|⟨h,-⟩
 .exact hg
 .exact h
theorem vw {ρr:Ren}(b:∃x,ρr x bo/\¬ρr.ch x){es:Array Event}(h:∀e∈es,∃a:Wu,e=⟨.cell a,false,false⟩/\a.block=bo):∀e∈es,iF ρr e:=fun e he=>by
 obtain ⟨a,rfl,rfl⟩:=h e he;obtain ⟨x,h1,h2⟩:=b;exact ⟨x,h1,(fun h=>by cases h),h2⟩
end
theorem xx {hr:Wk}{Vr:Wj}(B:eY P D Post hr Vr){ρ ρr ρs:Ren}{h g:Wk}{V:Wj}{L:List Wx}{n s q:Nat}{tm:Bool}{pc:Nat}(hd:Dem P.alt (fun g _=>NB [trap P.alt] g) D.T h V)(hp:LSs P.alt D.T D.h0 D.V0 h V)(p:∀v∈L,v∈D.L)(hF:Far ρr ρs)(A:∃x,ρr x D.bo/\¬ρr.ch x):
  ∀ (k:Nat) (gs:Array Wk) (W:Wj) (sl:Option (Nat×Nat)) (t:Trace) (qs:Nat->Nat) (y:Wk),nX D ρ ρr W h hr g V Vr L->Alone P D.bo g k y W->j7 W D.c n L true s q tm->xw D ρ ρr W->(∀y b,ρs y b->b<W.heap.size)->gs[0]?=some y->Lv P (fun _=>False) t gs qs->PhC D.c pc ρs W.heap.size t->Fin P Post gs W sl t:=by
 intro k;induction k with
 |zero=>
  intro gs W sl t qs y R hy r f o h0 l hP;rcases hy.next with rfl|⟨-,k',e,-⟩
  .exact B gs W sl t qs ρ ρr ρs h y V L n s q tm pc R hd hp p r hF f o h0 l hP
  .cases e
 |succ k z=>
  intro gs W sl t qs y R hy r f o h0 l hP;obtain ⟨M,hM⟩:∃M,sumTo gs.size qs<=M:=⟨_,lR _⟩;induction M using Nat.strongRecOn generalizing gs W sl t qs with
  |_ M ih=>
   rcases hy.next with rfl|⟨a,k',e,hnx⟩
   .exact B gs W sl t qs ρ ρr ρs h y V L n s q tm pc R hd hp p r hF f o h0 l hP
   .cases e;obtain ⟨i,x,d,sl',m,hx,hst⟩:=crowd_pick (P:=P) (w:=W) (sl:=sl) (g9 l h0 a) ⟨0,_,h0,a⟩;rcases Nat.eq_zero_or_pos i with rfl|hpos
    .obtain rfl:x=y:=by rw [h0] at m;exact (oJ m).symm
     obtain ⟨C,es,hg,hev,u⟩:=hnx d;obtain ⟨j,ops,e1,e2,e3,e4,-,e6⟩:=pM l m (.inl rfl) hst (show stepG P (0==0) x (W.at d)=_ from hg);subst e2;exact Fin.next e1 (z j (W.at d) sl' _ qs C (R.at d) u r ⟨f.kp,f.off,f.offR,f.chan⟩ o e4 e6 (hP.app hF (lR _) (jF (R.at d).sideR.sim (vw A hev) 0 _ _)))
    .obtain ⟨j,q',ops,e1,e2,e3,e4,e5,e6,-⟩:=slip l hP (fun t i fn pos es m _ h hm=>h.mute m hm) m hx hpos (fun k=>k) (firm0 h0 a _) hst;exact Fin.next e1 (ih _ (by omega) j (W.at d) sl' (t++ops) q' (R.at d) (hy.rely rfl) r ⟨f.kp,f.off,f.offR,f.chan⟩ o ((e3 0 (.inl rfl)).trans h0) e4 e5 (lR _))
end
section
open Go.Conc (crowd Past EvL Deaf QuitsD woken awake crowd_pick runT_crowd_go rcase scase parked ph)
open Go.ConcN (sumTo upd sumTo_upd upd_ne upd_same)
variable {P:Wv} [Two P] {D:PhD P} {Post:Wx->Wj->Prop}
def Half (ρ ρs:Ren):Prop:=∀b x y,ρ x b->ρs y b->ρs.old y\/ρs.ch y
inductive jb (D:PhD P)(ρ ρr:Ren)(W:Wj)(buf:List Wx)(hr:Wk)(Vr:Wj):Wk->List Wx->Nat->Prop
 |run {h g:Wk} {V:Wj} {L:List Wx} (R:nX D ρ ρr W h hr g V Vr L) (hd:Dem P.alt (fun g _=>NB [trap P.alt] g) D.T h V) (hp:LSs P.alt D.T D.h0 D.V0 h V):jb D ρ ρr W buf hr Vr g L 1
 |park {h1 hr1 g1 h:Wk} {V1 Vr1 V:Wj} {v z:Wx} {L:List Wx} {sh:CommShape} (C:FY D ρ ρr W h1 hr1 g1 V1 Vr1 (v::L) z sh h hr V Vr) (hb:buf=[]) (hd:Dem P.alt (fun g _=>NB [trap P.alt] g) D.T h V) (hp:LSs P.alt D.T D.h0 D.V0 h V):jb D ρ ρr W buf hr Vr (parked g1 #[rcase D.c z] sh) (v::L) 0
 |last {h1 hr1 g1 h hr':Wk} {V1 Vr1 V Vr':Wj} {z:Wx} {sh:CommShape} (C:FY D ρ ρr W h1 hr1 g1 V1 Vr1 [] z sh h hr' V Vr') (hb:buf=[]) (hp:LSs P.alt D.T D.h0 D.V0 h V):jb D ρ ρr W buf hr Vr (parked g1 #[rcase D.c z] sh) [] 0
 |pre {h g y:Wk} {V:Wj} {L:List Wx} (k:Nat) (R:nX D ρ ρr W h hr g V Vr L) (hd:Dem P.alt (fun g _=>NB [trap P.alt] g) D.T h V) (hp:LSs P.alt D.T D.h0 D.V0 h V) (hbo:(∃x,ρr x D.bo/\¬ρr.ch x)/\D.bo≠D.c) (hy:Alone P D.bo g k y W):jb D ρ ρr W buf hr Vr y L (k+2)
inductive fO (D:PhD P)(ρs:Ren)(W:Wj)(n:Nat)(buf:List Wx)(hs:Wk)(Vs:Wj):Wk->List Wx->Nat->Prop
 |run {s:Wk} {L:List Wx} (S:Snd P ([trap P.alt],D.Bs) ρs hs s Vs W D.cs D.c L):fO D ρs W n buf hs Vs s L 1
 |new {y s:Wk} {L:List Wx} (S:Snd P ([trap P.alt],D.Bs) ρs hs s Vs W D.cs D.c L) (hy:∀v,stepG P false y v=.go s v #[]) (hst:y.status=.running):fO D ρs W n buf hs Vs y L 2
 |park {h1 s1:Wk} {V1:Wj} {L:List Wx} {cc:CommCase} {v z:Wx} (S:Snd P ([trap P.alt],D.Bs) ρs h1 s1 V1 W D.cs D.c L) (rc:RC ρs cc (scase D.c v z)) (lc:LC P.alt h1 cc .send V1 hs Vs) (hf:n<=buf.length):fO D ρs W n buf hs Vs (parked s1 #[scase D.c v z] .send) L 0
section
variable {ρ ρr ρs ρ' ρr' ρs':Ren} {W W1:Wj} {n:Nat} {buf:List Wx} {hr hs x:Wk} {Vr Vs:Wj} {L:List Wx} {f:Nat} {es:Array Event}
theorem nX.stays {h g:Wk}{V:Wj}(R:nX D ρ ρr W h hr g V Vr L)(f:W1.os=W.os)(h1:∀x b,ρ x b->b≠D.c->W1.heap[b]?=W.heap[b]?)(h2:∀x b,ρr x b->b≠D.c->W1.heap[b]?=W.heap[b]?)(hc:W1.heap[D.c]?=W.heap[D.c]?):nX D ρ ρr W1 h hr g V Vr L:=
 ⟨R.side.stays f h1 hc,R.sideR.stays f h2 hc,R.only,R.chR,R.unmk,R.base,R.all,fun a b hch d hne=>by
  obtain ⟨n,s,q,tm,i,s',q',e1,e2⟩:=R.rest a b hch d hne;exact ⟨n,s,q,tm,i,s',q',e1,by rw [h1 a b d (fun e=>hne (ρ.inj _ _ _ d (e▸R.side.pair)))];exact e2⟩⟩
theorem jb.stays (R:jb D ρ ρr W buf hr Vr x L f)(a:W1.os=W.os)(h1:∀x b,ρ x b->b≠D.c->W1.heap[b]?=W.heap[b]?)(h2:∀x b,ρr x b->b≠D.c->W1.heap[b]?=W.heap[b]?)(hc:W1.heap[D.c]?=W.heap[D.c]?):jb D ρ ρr W1 buf hr Vr x L f:=by
 cases R with
 |run R hd hp=>exact .run (R.stays a h1 h2 hc) hd hp
 |park C hb hd hp=>exact .park ⟨C.at1.stays a h1 h2 hc,C.sh,C.atc,C.rc,C.rcr⟩ hb hd hp
 |last C hb hp=>exact .last ⟨C.at1.stays a h1 h2 hc,C.sh,C.atc,C.rc,C.rcr⟩ hb hp
 |pre k R hd hp d hy=>
  obtain ⟨⟨x0,k1,k2⟩,k3⟩:=d;exact .pre k (R.stays a h1 h2 hc) hd hp ⟨⟨x0,k1,k2⟩,k3⟩ (hy.rely (h2 _ _ k1 k3))
theorem fO.stays (S:fO D ρs W n buf hs Vs x L f)(a:W1.os=W.os)(h1:∀x b,ρs x b->b≠D.c->W1.heap[b]?=W.heap[b]?)(hc:W1.heap[D.c]?=W.heap[D.c]?):fO D ρs W1 n buf hs Vs x L f:=by
 cases S with
 |run S=>exact .run (S.stays a h1 hc)
 |new S hy hst=>exact .new (S.stays a h1 hc) hy hst
 |park S d e hf=>exact .park (S.stays a h1 hc) d e hf
theorem fO.lt (S:fO D ρs W n buf hs Vs x L f):∀y b,ρs y b->b<W.heap.size:=fun y b k=>by
 cases S with
 |run S=>exact (S.sim.lt k).2
 |new S _ _=>exact (S.sim.lt k).2
 |park S _ _ _=>exact (S.sim.lt k).2
theorem fO.ch (S:fO D ρs W n buf hs Vs x L f):(∀y,ρs.ch y↔y=D.cs)/\ρs D.cs D.c:=by
 cases S with
 |run S=>exact ⟨S.ch,S.pair⟩
 |new S _ _=>exact ⟨S.ch,S.pair⟩
 |park S _ _ _=>exact ⟨S.ch,S.pair⟩
theorem jb.ch (R:jb D ρ ρr W buf hr Vr x L f):((∀y,ρr.ch y->y=D.cr)/\ρr D.cr D.c)/\(∀y b,ρ y b->b<W.heap.size)/\∀y b,ρr y b->b<W.heap.size:=by
 cases R with
 |run R _ _=>exact ⟨⟨R.chR,R.sideR.pair⟩,fun y b k=>(R.side.sim.lt k).2,fun y b k=>(R.sideR.sim.lt k).2⟩
 |park C _ _ _=>exact ⟨⟨C.at1.chR,C.at1.sideR.pair⟩,fun y b k=>(C.at1.side.sim.lt k).2,fun y b k=>(C.at1.sideR.sim.lt k).2⟩
 |last C _ _=>exact ⟨⟨C.at1.chR,C.at1.sideR.pair⟩,fun y b k=>(C.at1.side.sim.lt k).2,fun y b k=>(C.at1.sideR.sim.lt k).2⟩
 |pre _ R _ _ _ _=>exact ⟨⟨R.chR,R.sideR.pair⟩,fun y b k=>(R.side.sim.lt k).2,fun y b k=>(R.sideR.sim.lt k).2⟩
theorem fO.pre (O:vt P D Post)(hD:Dem P.alt D.Ns D.Ts hs Vs)(S:fO D ρs W n buf hs Vs x L f){b:List Wx}{s q:Nat}{tm:Bool}(r:j7 W D.c n b false s q tm):L <+:D.L:=by
 have key:∀ {s:Wk} {W:Wj} {L:List Wx},Snd P ([trap P.alt],D.Bs) ρs hs s Vs W D.cs D.c L->L <+:D.L:=fun S=>by
  obtain ⟨n,b,s,q,tm,h1,h2⟩:=S.row;exact h2▸(O.pre hD _ _ _ _ _ _ h1).2
 cases S with
 |run S=>exact key S
 |new S _ _=>exact key S
 |park S a d hf=>
  obtain ⟨v0,-,S2⟩:=S.push a d rfl (fun _ _=>rfl) r r;exact (List.prefix_append _ _).trans (key S2)
omit [Two P] in
theorem Moved.left (m:Moved ρ ρ' ρr ρr' W W1 D.c es)(hF:Far ρr ρs)(hS:∀y b,ρs y b->b<W.heap.size)(hch:∀y,ρr.ch y->ρr y D.c):∀x b,ρs x b->b≠D.c->W1.heap[b]?=W.heap[b]?:=fun x b hb hne=>
 m.keep.block b (hS x b hb) (fun a ha=>by
  rcases hF b a x ha hb with ⟨k,-⟩|⟨k,-⟩
  .exact k
  .exact absurd (ρr.fn _ _ _ ha (hch a k)) hne)
omit [Two P] in
theorem Moved.half (m:Moved ρ ρ' ρr ρr' W W1 D.c es)(a:Half ρ ρs)(hS:∀y b,ρs y b->b<W.heap.size):Half ρ' ρs:=fun b x y h1 h2=>by
 rcases m.new x b h1 with k|k
 .exact a b x y k h2
 .have:=hS y b h2;omega
omit [Two P] in
theorem jH.far (m:jH ρs ρs' W W1 D.c es)(hF:Far ρr ρs)(a:∀y b,ρr y b->b<W.heap.size):Far ρr ρs':=fun b x y h1 h2=>by
 rcases m.new y b h2 with k|k
 .rw [m.le.old,m.le.ch];exact hF b x y h1 k
 .have:=a x b h1;omega
omit [Two P] in
theorem jH.half (m:jH ρs ρs' W W1 D.c es)(a:Half ρ ρs)(d:∀y b,ρ y b->b<W.heap.size):Half ρ ρs':=fun b x y h1 h2=>by
 rcases m.new y b h2 with k|k
 .rw [m.le.old,m.le.ch];exact a b x y h1 k
 .have:=d x b h1;omega
omit [Two P] in
theorem jH.left (m:jH ρs ρs' W W1 D.c es){σ:Ren}(d:Half σ ρs)(e:∀y b,σ y b->b<W.heap.size)(hch:∀y,ρs.ch y->ρs y D.c):∀x b,σ x b->b≠D.c->W1.heap[b]?=W.heap[b]?:=fun x b hb hne=>
 m.keep.block b (e x b hb) (fun a ha=>by
  rcases d b x a hb ha with k|k
  .exact k
  .exact absurd (ρs.fn _ _ _ ha (hch a k)) hne)
theorem Far.half (h:Far ρr ρs):Half ρr ρs:=fun b x y h1 h2=>(h b x y h1 h2).imp (·.2) (·.2)
theorem jb.again (R:jb D ρ ρr W buf hr Vr x L f){w:Wj}{d:Nat}{b:List Wx}{s q:Nat}{tm:Bool}(r:j7 w D.c d b false s q tm):x.again w=x:=by
 obtain ⟨a,r,-⟩:=r;cases R with
 |run R _ _=>exact Conc.again_running _ (.inl R.run)
 |park C _ _ _=>exact Conc.again_recv_open r
 |last C _ _=>exact Conc.again_recv_open r
 |pre _ R _ _ _ hy=>exact Conc.again_running _ (.inl (hy.status R.run))
theorem fO.again (S:fO D ρs W n buf hs Vs x L f){w:Wj}{d:Nat}{b:List Wx}{s q:Nat}{tm:Bool}(r:j7 w D.c d b false s q tm):x.again w=x:=by
 obtain ⟨a,r,-⟩:=r;cases S with
 |run S=>exact Conc.again_running _ (.inl S.go.status.2)
 |new S _ hst=>exact Conc.again_running _ (.inl hst)
 |park S _ _ _=>exact Conc.again_send_open r
theorem jb.status (R:jb D ρ ρr W buf hr Vr x L f):x.status=.running\/x.status=.blocked:=by
 cases R with
 |run R _ _=>exact .inl R.run
 |park C _ _ _=>exact .inr rfl
 |last C _ _=>exact .inr rfl
 |pre _ R _ _ _ hy=>exact .inl (hy.status R.run)
theorem fO.status (S:fO D ρs W n buf hs Vs x L f):x.status=.running\/x.status=.blocked:=by
 cases S with
 |run S=>exact .inl S.go.status.2
 |new S _ hst=>exact .inl hst
 |park S _ _ _=>exact .inr rfl
end
end
section
open Go.Conc (crowd Past EvL Deaf QuitsD woken awake crowd_pick runT_crowd_go rcase scase parked ph)
open Go.ConcN (sumTo upd sumTo_upd upd_ne upd_same)
variable {P:Wv} [Two P] {D:PhD P} {Post:Wx->Wj->Prop}
structure kw (D:PhD P)(ρ ρr ρs:Ren)(W:Wj):Prop where
 half:Half ρ ρs
 out:xw D ρ ρr W
 offS:Off D.U ρs
omit [Two P] in
theorem kw.rcv {ρ ρr ρs ρ' ρr':Ren}{W W1:Wj}{es:Array Event}(h:kw D ρ ρr ρs W)(m:Moved ρ ρ' ρr ρr' W W1 D.c es)(hS:∀y b,ρs y b->b<W.heap.size):kw D ρ' ρr' ρs W1:=⟨m.half h.half hS,h.out.rcv m,h.offS⟩
omit [Two P] in
theorem kw.snd {ρ ρr ρs ρs':Ren}{W W1:Wj}{es:Array Event}(h:kw D ρ ρr ρs W)(m:jH ρs ρs' W W1 D.c es)(a:∀y b,ρ y b->b<W.heap.size):kw D ρ ρr ρs' W1:=⟨m.half h.half a,⟨h.out.kp.keep h.offS m.keep,h.out.off,h.out.offR,h.out.chan⟩,h.offS.new h.out.kp m.le.sub m.new ⟨m.le.pin,m.le.bad⟩⟩
omit [Two P] in
theorem kw.set {ρ ρr ρs:Ren}{W:Wj}(h:kw D ρ ρr ρs W){n:Nat}{b:Array Wx}{cl:Bool}{s q:Nat}{tm:Bool}:kw D ρ ρr ρs (W.setChan D.c n b cl s q tm):=⟨h.half,h.out.set _ _ _ _ _ _,h.offS⟩
omit [Two P] in
theorem xw.shut {ρ ρr:Ren}{W:Wj}(h:xw D ρ ρr W){n:Nat}{b:Array Wx}{s q:Nat}{tm:Bool}:xw D ρ ρr (d8 W D.c n b s q tm):=h.set _ _ _ _ _ _
omit [Two P] in
theorem kw.at {ρ ρr ρs:Ren}{W:Wj}(h:kw D ρ ρr ρs W)(d:Nat):kw D ρ ρr ρs (W.at d):=⟨h.half,⟨h.out.kp,h.out.off,h.out.offR,h.out.chan⟩,h.offS⟩
def ig (P:Wv) [Two P](D:PhD P)(Post:Wx->Wj->Prop)(hr:Wk)(Vr:Wj)(hs:Wk)(Vs:Wj):Prop:=
 ∀ (gs:Array Wk) (W:Wj) (sl:Option (Nat×Nat)) (t:Trace) (qs:Nat->Nat) (ρ ρr ρs:Ren) (x0 xk:Wk) (L Ls buf a:List Wx) (n s q:Nat) (tm:Bool) (f1 f2:Nat),jb D ρ ρr W buf hr Vr x0 L f1->fO D ρs W n buf hs Vs xk Ls f2->j7 W D.c n buf false s q tm->0<n->Ls=a++buf->D.L=a++L->Far ρr ρs->kw D ρ ρr ρs W->gs[0]?=some x0->gs[D.k]?=some xk->Lv P (fun i=>i=D.k) t gs qs->PhT 0 D.k ρr ρs W.heap.size t->Fin P Post gs W sl t
omit [Two P] in
theorem gr {gs:Array Wk}{t:Trace}{qs:Nat->Nat}{k i:Nat}(d:Lv P (fun j=>j=k) t gs qs){y:Wk}{j:Nat}(a:(i=0/\j=k)\/(i=k/\j=0))(f:gs[j]?=some y)(r:Nat)(b:Bool)(hy:Conc.offersAt y r b=[]):partners (gs.setIfInBounds i ph) r b=[]:=by
 refine Conc.partners_nil (fun l x hx=>?_);rcases Conc.getElem?_stand gs i l x hx with ⟨-,rfl⟩|⟨hne,hx⟩
 .exact Conc.offersAt_ph r b
 .by_cases c:l=j
  .subst c;rw [f] at hx;cases hx;exact hy
  .refine Conc.offersAt_of_not_blocked (fun e=>?_) r b;have h0:0<l:=by rcases a with ⟨rfl,rfl⟩|⟨rfl,rfl⟩<;>omega
   have hk:¬l=k:=by rcases a with ⟨rfl,rfl⟩|⟨rfl,rfl⟩<;>assumption
   rcases (d.old l x h0 hk hx).status with h|h<;>rw [h] at e<;>cases e
omit [Two P] in
theorem ow {gs:Array Wk}{t:Trace}{qs:Nat->Nat}{k i:Nat}(d:Lv P (fun j=>j=k) t gs qs){y:Wk}{j:Nat}(a:(i=0/\j=k)\/(i=k/\j=0))(hne0:k≠0)(c:gs[j]?=some y)(r:Nat)(b:Bool)(hy:Conc.offersAt y r b=[0]):partners (gs.setIfInBounds i ph) r b=[(j,0)]:=by
 have hji:j≠i:=by rcases a with ⟨rfl,rfl⟩|⟨rfl,rfl⟩<;>omega
 rw [Conc.partners_one (Conc.stand_get hji c) (fun l x hl hx=>?_),hy]
 .rfl
 .rcases Conc.getElem?_stand gs i l x hx with ⟨-,rfl⟩|⟨hne,hx⟩
  .exact Conc.offersAt_ph r b
  .refine Conc.offersAt_of_not_blocked (fun e=>?_) r b;have h0:0<l:=by rcases a with ⟨rfl,rfl⟩|⟨rfl,rfl⟩<;>omega
   have hk:¬l=k:=by rcases a with ⟨rfl,rfl⟩|⟨rfl,rfl⟩<;>assumption
   rcases (d.old l x h0 hk hx).status with h|h<;>rw [h] at e<;>cases e
theorem vy {a b c l:List Wx}{v:Wx}(h1:a=c++(v::b))(h:a <+:c++l):∃l',l=v::l':=by
 subst h1;obtain ⟨e,he⟩:=h;simp only [pA,List.append_cancel_left_eq,List.cons_append] at he;exact ⟨_,he.symm⟩
theorem nX.other {ρ ρr:Ren}{W W1:Wj}{h hr g:Wk}{V Vr:Wj}{L:List Wx}(R:nX D ρ ρr W h hr g V Vr L)(f:W1.os=W.os)(hs:∀b,b≠D.c->W1.heap[b]?=W.heap[b]?){n j:Nat}{b b':List Wx}{cl i:Bool}{s q s' q':Nat}{tm:Bool}(r1:j7 W D.c n b cl s q tm)(r2:j7 W1 D.c j b' i s' q' tm):nX D ρ ρr W1 h hr g V Vr L:=
 ⟨R.side.other f (fun _ b _ hb=>hs b hb) r1 r2,R.sideR.other f (fun _ b _ hb=>hs b hb) r1 r2,R.only,R.chR,R.unmk,R.base,R.all,fun a b hch d hne=>by
  obtain ⟨n,s,q,tm,j,s',q',e1,e2⟩:=R.rest a b hch d hne;exact ⟨n,s,q,tm,j,s',q',e1,by rw [hs b (fun e=>hne (ρ.inj _ _ _ d (e▸R.side.pair)))];exact e2⟩⟩
theorem PhT.ops {p q:Nat}{ρ ρ':Ren}{B:Nat}(hF:Far ρ ρ'):∀ (l:List MemOp)(t:Trace),PhT p q ρ ρ' B t->(∀b∈l,(b.g=p\/b.g=q)/\dg B b.act)->PhT p q ρ ρ' B (t++l.toArray):=by
 intro l;induction l with
 |nil=>intro t h _;simpa using h
 |cons x l ih=>
  intro t h hl;have e:t++(x::l).toArray=(t++#[x])++l.toArray:=by apply Array.ext';simp
  rw [e];refine ih _ ?_ (fun b a=>hl b (by simp [a]));obtain ⟨hg,hc⟩:=hl x (by simp);rcases hg with hg|hg
  .exact h.app (Ren.le_refl _) hF (lR _) (fun b a=>by simp at a;subst a;exact ⟨hg,ud hc⟩)
  .exact (h.symm.app (Ren.le_refl _) hF.symm (lR _) (fun b a=>by simp at a;subst a;exact ⟨hg,ud hc⟩)).symm
theorem mG (O:vt P D Post){hr hs:Wk}{Vr Vs:Wj}(a6:Dem P.alt D.Ns D.Ts hs Vs)(b9:NB [trap P.alt] hr)(c7:∀τ d,∃ar Vr',LS P.alt hr (Vr.on τ d) ar Vr')
  (hn:∀τ d ar Vr',LS P.alt hr (Vr.on τ d) ar Vr'->(∀hs Vs,Dem P.alt D.Ns D.Ts hs Vs->ig P D Post ar Vr' hs Vs)\/((∀n b s q tm,Vr.heap[D.cr]?=some (.chan n b true s q tm)->b.toList=[])/\∃h1 cc s V1 es,stepG P.alt true hr (Vr.on τ d)=.comm h1 cc true s V1 es))
  (al:eY P D Post hr Vr)
  (bs:(NB [trap P.alt] hs/\∀τ d,(∃av Vs',LS P.alt hs (Vs.on τ d) av Vs')/\∀av Vs',LS P.alt hs (Vs.on τ d) av Vs'->Dem P.alt D.Ns D.Ts av Vs'/\ig P D Post hr Vr av Vs')\/D.Ts hs Vs):ig P D Post hr Vr hs Vs:=by
 intro gs W sl t qs ρ ρr ρs x0 xk L Ls buf p n s q tm f1 f2 RP SP r Z J F hF hH h0 hk hL hP;obtain ⟨M,hM⟩:∃M,sumTo gs.size qs+f1+f2<=M:=⟨_,lR _⟩;induction M using Nat.strongRecOn generalizing gs W sl t qs x0 xk ρ ρr ρs f1 f2 with
 |_ M ih=>
  have hkpos:0<D.k:=Nat.pos_of_ne_zero O.k0;have hlt0:0<gs.size:=(eS h0).1;have N:D.k<gs.size:=(eS hk).1;have c0:∀y∈gs,awake y:=fun y hy=>by
   obtain ⟨i,Q,rfl⟩:=Array.mem_iff_getElem.1 hy;by_cases bo:i=0
   .subst bo;have:gs[0]=x0:=by simpa [eG Q] using h0
    rw [this];exact Conc.awake_of (RP.status.imp id .inl)
   .by_cases bb:i=D.k
    .subst bb;have:gs[D.k]=xk:=by simpa [eG Q] using hk
     rw [this];exact Conc.awake_of (SP.status.imp id .inl)
    .exact Conc.awake_of ((hL.old i _ (by omega) bb (eG Q)).status.elim .inl fun x=>.inr (.inr x))
  have b2:∃ (i:Nat) (g:Wk),gs[i]?=some g/\g.status=.running:=by
   cases RP with
   |run R _ _=>exact ⟨0,_,h0,R.run⟩
   |pre _ R _ _ _ hy=>exact ⟨0,_,h0,hy.status R.run⟩
   |park C hb _ _=>
    cases SP with
    |run S=>exact ⟨_,_,hk,S.go.status.2⟩
    |new S _ hst=>exact ⟨_,_,hk,hst⟩
    |park _ _ _ hf=>rw [hb] at hf;simp at hf;omega
   |last C hb _=>
    cases SP with
    |run S=>exact ⟨_,_,hk,S.go.status.2⟩
    |new S _ hst=>exact ⟨_,_,hk,hst⟩
    |park _ _ _ hf=>rw [hb] at hf;simp at hf;omega
  obtain ⟨i,x,d,sl',Q,hx,hst⟩:=crowd_pick (P:=P) (w:=W) (sl:=sl) c0 b2;by_cases bo:i=0
  .subst bo;obtain rfl:x0=x:=by rw [h0] at Q;exact oJ Q
   cases RP with
   |park C _ _ _=>cases hx
   |last C _ _=>cases hx
   | @pre h g _ V _ k R hd hp af hy=>
    rcases hy.next with rfl|⟨a1,k',rfl,hnx⟩
    .exact ih (sumTo gs.size qs+1+f2) (by omega) gs W sl t qs ρ ρr ρs x0 xk 1 f2 (.run R hd hp) SP r hF hH h0 hk hL hP (lR _)
    .obtain ⟨y',es,hg,hev,c5⟩:=hnx d;obtain ⟨Y,ops,e1,e2,e3,e4,e5,e6⟩:=pM (K:=fun i=>i=D.k) hL Q (.inl rfl) hst (show stepG P (0==0) x0 (W.at d)=_ from hg);subst e2;have SP1:fO D ρs (W.at d) n buf hs Vs xk Ls f2:=SP.stays rfl (fun _ _ _ _=>rfl) rfl;exact Fin.next e1 (ih (sumTo Y.size qs+(k'+2)+f2) (by rw [e3];omega) Y (W.at d) sl' _ qs ρ ρr ρs y' xk (k'+2) f2 (.pre k' (R.at d) hd hp af c5) SP1 r hF (hH.at d) e4 (by rw [e5 D.k xk O.k0 hk,ft (SP1.again (w:=W.at d) r)]) e6 (hP.app (Ren.le_refl _) hF (lR _) (jF (R.at d).sideR.sim (vw af.1 hev) 0 _ _)) (lR _))
   | @run h _ V _ R hd hp=>
    obtain ⟨h',V',hl,H,E⟩:=rm O R hd hp d;obtain ⟨ar,Vr',bp⟩:=c7 W.tape d;have hnx:=hn _ _ _ _ bp;obtain ⟨g1,W1,es,ρ',ρr',m,hcs⟩:=vu O R b9 d hl bp;have hBs:=SP.lt;have hF':=m.far hF hBs;have hH':=hH.rcv m hBs;have hsz:W.heap.size<=W1.heap.size:=m.keep.size;have r1:j7 W1 D.c n buf false s q tm:=by
     obtain ⟨a,k1,k2⟩:=r;exact ⟨a,m.row.trans k1,k2⟩
    have hleft:=m.left hF hBs (fun y k=>by rw [R.chR y k];exact R.sideR.pair);have SP1:fO D ρs W1 n buf hs Vs xk Ls f2:=SP.stays m.keep.os hleft m.row;have hPre:=SP.pre O a6 r;rcases hcs with ⟨hg,R'⟩|⟨h1,hr1,V1,Vr1,z,sh,hg,C⟩
    .have hC:∀hs Vs,Dem P.alt D.Ns D.Ts hs Vs->ig P D Post ar Vr' hs Vs:=by
      rcases hnx with k|⟨-,_,_,_,_,_,k⟩
      .exact k
      .exfalso;have c2:Base ([trap P.alt],D.X.2) hr.frame x0.callers:=fun e=>b9 (R.sideR.go.callers.tail e)
       obtain ⟨-,sr⟩:=mF O.zero O.count true R.sideR.go c2 R.sideR.sim R.sideR.gid R.sideR.ext R.unmk.1 d rfl bp;rw [k,hg] at sr;cases sr
     obtain ⟨Y,ops,e1,e2,e3,e4,e5,e6⟩:=pM (K:=fun i=>i=D.k) hL Q (.inl rfl) hst (show stepG P (0==0) x0 (W.at d)=_ from hg);subst e2;exact Fin.next e1 (hC hs Vs a6 Y W1 sl' _ qs ρ' ρr' ρs g1 xk L Ls buf p n s q tm 1 f2 (.run R' H E) SP1 r1 Z J F hF' hH' e4 (by rw [e5 D.k xk O.k0 hk,ft (SP1.again r1)]) e6 (hP.app m.ler hF' hsz (jF R'.sideR.sim m.ev 0 _ _)))
    .obtain ⟨a,ha1,A⟩:=r1;have hlt:D.c<W1.heap.size:=(eS ha1).1;have hev:=jF C.at1.sideR.sim m.ev 0 x0.frame.fn x0.frame.place;have hP1:=hP.app m.ler hF' hsz hev;have I:stepG P (0==0) x0 (W.at d)=.comm g1 #[rcase D.c z] true sh W1 es:=hg;cases buf with
     |nil=>
      have G:Conc.offersAt xk D.c true=[]:=by
       cases SP1 with
       |run S=>exact Conc.offersAt_of_not_blocked (by rw [S.go.status.2];exact fun h=>by cases h) _ _
       |new S _ hst=>exact Conc.offersAt_of_not_blocked (by rw [hst];exact fun h=>by cases h) _ _
       |park _ _ _ hf=>simp at hf;omega
      have ha:a=#[]:=Array.toList_inj.1 (by simpa using A);subst ha;have hrt:=Conc.crowd_waits (sl:=sl') (i:=0) Q I (fun cc ap=>by
       simp at ap;subst ap;exact Conc.ways_recv_none ha1 (gr hL (.inl ⟨rfl,rfl⟩) hk D.c true G))
      have a5:Lv P (fun i=>i=D.k) (t++MemOp.ofEvents 0 x0.frame.fn x0.frame.place es) (gs.setIfInBounds 0 (parked g1 #[rcase D.c z] sh)) qs:=hL.put (fun B f=>(hev B f).2.2.1) (by simp) (fun j hj _=>sN (by omega));have hk':(gs.setIfInBounds 0 (parked g1 #[rcase D.c z] sh))[D.k]?=some xk:=by rw [sN (by omega)];exact hk
      have cd:(gs.setIfInBounds 0 (parked g1 #[rcase D.c z] sh))[0]?=some (parked g1 #[rcase D.c z] sh):=by simp [hlt0]
      refine Fin.next (hst.trans hrt) ?_
      cases L with
      |nil=>exact ih (sumTo gs.size qs+0+f2) (by omega) _ W1 sl' _ qs ρ' ρr' ρs _ xk 0 f2 (.last C rfl E) SP1 ⟨_,ha1,A⟩ hF' hH' cd hk' a5 hP1 (by simp)
      |cons v L=>
       have hC:∀hs Vs,Dem P.alt D.Ns D.Ts hs Vs->ig P D Post ar Vr' hs Vs:=by
        rcases hnx with k|⟨k,-⟩
        .exact k
        .exfalso;obtain ⟨n0,b0,s0,q0,b5,k1,k2⟩:=R.sideR.row;rw [k _ _ _ _ _ k1] at k2;cases k2
       exact hC hs Vs a6 _ W1 sl' _ qs ρ' ρr' ρs _ xk (v::L) Ls [] p n s q tm 0 f2 (.park C rfl H E) SP1 ⟨_,ha1,A⟩ Z J F hF' hH' cd hk' a5 hP1
     |cons v rest=>
      obtain ⟨L',rfl⟩:=vy J (F▸hPre);have hC:∀hs Vs,Dem P.alt D.Ns D.Ts hs Vs->ig P D Post ar Vr' hs Vs:=by
       rcases hnx with k|⟨k,-⟩
       .exact k
       .exfalso;obtain ⟨n0,b0,s0,q0,b5,k1,k2⟩:=R.sideR.row;rw [k _ _ _ _ _ k1] at k2;cases k2
      have hv:v∈D.L:=by rw [F];simp
      have a4:0<a.size:=by rw [<-lY,A];simp
      have bn:a.getD 0 Wo=v:=by rw [gD,<-gT,A];rfl
      have bi:(a.extract 1 a.size).toList=rest:=by
       have hl:a.toList.length=a.size:=lY;rw [Array.toList_extract,A] at *;simp at hl ⊢;rw [<-hl];simp
      have cp:Conc.offersAt xk D.c true=[]->(∀W2:Wj,W2.os=W1.os->(∀b,b≠D.c->W2.heap[b]?=W1.heap[b]?)->∀b' s' q',j7 W2 D.c n b' false s' q' tm->fO D ρs W2 n b' hs Vs xk Ls f2)->Fin P Post gs W sl t:=fun G c1=>by
       have hrt:=Conc.crowd_recv_buf (sl:=sl') (i:=0) Q I ha1 a4 (gr hL (.inl ⟨rfl,rfl⟩) hk D.c true G);rw [bn] at hrt;have r2:=dF W1 D.c n (a.extract 1 a.size) false s (q+1) tm hlt;rw [bi] at r2;have R2:=C.take O hv (W':=W1.setChan D.c n (a.extract 1 a.size) false s (q+1) tm) rfl (fun b hb=>aK _ _ _ _ _ _ _ _ hb) ⟨a,ha1,A⟩ r2;have hu:∀B∈[({g:=0,fn:=g1.frame.fn,pos:=g1.frame.place,act:=.recv D.c q n}:MemOp),{g:=0,fn:=g1.frame.fn,pos:=g1.frame.place,act:=.recvDone D.c q}],(B.g=0\/B.g=D.k)/\dg W1.heap.size B.act:=fun B f=>by
        simp at f;rcases f with rfl|rfl<;>exact ⟨.inl rfl,hlt⟩
       refine Fin.next (hst.trans hrt) (hC hs Vs a6 _ _ sl' _ qs ρ' ρr' ρs _ xk L' Ls rest (p++[v]) n s (q+1) tm 1 f2 (.run R2 H E) (c1 (W1.setChan D.c n (a.extract 1 a.size) false s (q+1) tm) rfl (fun b hb=>aK _ _ _ _ _ _ _ _ hb) _ _ _ r2) r2 Z (by rw [J];simp) (by rw [F];simp) hF' hH'.set (by simp [hlt0]) (by rw [sN (by omega)];exact hk) (hL.put (fun B f=>?_) (by simp) (fun j hj _=>sN (by omega))) ?_)
       .rcases Array.mem_append.1 f with k|k
        .exact (hev B k).2.2.1
        .exact (hu B (by simpa using k)).2.still
       .rw [<-Array.append_assoc,ct];exact PhT.ops hF' _ _ hP1 hu
      cases SP1 with
      |run S=>exact cp (Conc.offersAt_of_not_blocked (by rw [S.go.status.2];exact fun h=>by cases h) _ _) (fun W2 a7 hb b' s' q' r2=>.run (S.other a7 (fun _ b _ k=>hb b k) ⟨a,ha1,A⟩ r2))
      |new S hy a1=>exact cp (Conc.offersAt_of_not_blocked (by rw [a1];exact fun h=>by cases h) _ _) (fun W2 a7 hb b' s' q' r2=>.new (S.other a7 (fun _ b _ k=>hb b k) ⟨a,ha1,A⟩ r2) hy a1)
      | @park h1s s1 V1s _ cc v1 z1 S rc lc hf=>
       have G:Conc.offersAt (parked s1 #[scase D.c v1 z1] .send) D.c true=[0]:=by rw [Conc.offersAt_parked_send];simp
       have hrt:=nt (sl:=sl') (i:=0) (j:=D.k) Q I ha1 a4 O.k0 hk (ow hL (.inl ⟨rfl,rfl⟩) O.k0 hk D.c true G);rw [bn] at hrt;have r2:=dF W1 D.c n ((a.extract 1 a.size).push v1) false (s+1) (q+1) tm hlt;rw [Array.toList_push,bi] at r2;have R2:=C.take O hv (W':=W1.setChan D.c n ((a.extract 1 a.size).push v1) false (s+1) (q+1) tm) rfl (fun b hb=>aK _ _ _ _ _ _ _ _ hb) ⟨a,ha1,A⟩ r2;obtain ⟨v0,bx,S2⟩:=S.push rc lc (W':=W1.setChan D.c n ((a.extract 1 a.size).push v1) false (s+1) (q+1) tm) rfl (fun b hb=>aK _ _ _ _ _ _ _ _ hb) ⟨a,ha1,A⟩ r2;have ac:Ls++[v0] <+:D.L:=by
        obtain ⟨_,_,_,_,_,k1,k2⟩:=S2.row;exact k2▸(O.pre a6 _ _ _ _ _ _ k1).2
       obtain rfl:v1=v0:=(O.flat v0 (ac.subset (by simp)) ρs).2 v1 bx;have hu:∀B∈[({g:=0,fn:=g1.frame.fn,pos:=g1.frame.place,act:=.recv D.c q n}:MemOp),{g:=0,fn:=g1.frame.fn,pos:=g1.frame.place,act:=.recvDone D.c q},{g:=D.k,fn:=s1.frame.fn,pos:=s1.frame.place,act:=.send D.c s},{g:=D.k,fn:=s1.frame.fn,pos:=s1.frame.place,act:=.sendDone D.c s}],(B.g=0\/B.g=D.k)/\dg W1.heap.size B.act:=fun B f=>by
        simp at f;rcases f with rfl|rfl|rfl|rfl
        .exact ⟨.inl rfl,hlt⟩
        .exact ⟨.inl rfl,hlt⟩
        .exact ⟨.inr rfl,hlt⟩
        .exact ⟨.inr rfl,hlt⟩
       refine Fin.next (hst.trans hrt) (hC hs Vs a6 _ _ sl' _ qs ρ' ρr' ρs _ (s1.finishComm P #[scase D.c v1 z1] .send 0 Wo false) L' (Ls++[v1]) (rest++[v1]) (p++[v]) n (s+1) (q+1) tm 1 1 (.run R2 H E) (.run S2) r2 Z (by rw [J];simp) (by rw [F];simp) hF' hH'.set (by simp [hlt0]) (by rw [sN (by omega)];simp [N]) (hL.put (fun B f=>?_) (by simp) (fun j hj T=>by rw [sN (by omega),sN (fun e=>T e.symm)])) ?_)
       .rcases Array.mem_append.1 f with k|k
        .exact (hev B k).2.2.1
        .exact (hu B (by simpa using k)).2.still
       .rw [<-Array.append_assoc,ct];exact PhT.ops hF' _ _ hP1 hu
  .by_cases bb:i=D.k
   .subst bb;obtain rfl:xk=x:=by rw [hk] at Q;exact oJ Q
    have hkk:(D.k==0)=false:=beq_eq_false_iff_ne.2 O.k0;obtain ⟨⟨hchr,hpr⟩,b7,b4⟩:=RP.ch;have be:∀y,ρs.ch y->ρs y D.c:=fun y k=>by rw [(SP.ch.1 y).1 k];exact SP.ch.2
    cases SP with
    |park _ _ _ _=>cases hx
    | @new _ s0 _ S hy a1=>
     obtain ⟨Y,ops,e1,e2,e3,e4,e5,e6⟩:=pM (K:=fun i=>i=D.k) hL Q (.inr rfl) hst (show stepG P (D.k==0) xk (W.at d)=.go s0 (W.at d) #[] by rw [hkk];exact hy _);subst e2;rw [ie,Array.append_empty] at e6;rw [ie] at e1;refine Fin.next e1 (ih (sumTo Y.size qs+f1+1) (by rw [e3];omega) Y (W.at d) sl' _ qs ρ ρr ρs x0 s0 f1 1 (RP.stays rfl (fun _ _ _ _=>rfl) (fun _ _ _ _=>rfl) rfl) (.run (S.stays rfl (fun _ _ _ _=>rfl) rfl)) r hF (hH.at d) ?_ e4 ?_ ?_ (lR _))
     .rw [e5 0 x0 (by omega) h0,ft (RP.again (w:=W.at d) r)]
     .rw [Array.append_empty];exact e6
     .rw [Array.append_empty];exact hP
    |run S=>
     rcases bs with ⟨b6,bq⟩|cm
     .obtain ⟨⟨av,Vs',hl⟩,b8⟩:=bq W.tape d;obtain ⟨bl,hO⟩:=b8 _ _ hl;obtain ⟨s1,W1,es,ρs',m,hcs⟩:=Cq O S b6 d hl (fun n b cl s q tm k=>(O.pre bl _ _ _ _ _ _ k).1);have hF':=m.far hF b4;have hH':=hH.snd m b7;have hsz:W.heap.size<=W1.heap.size:=m.keep.size;have RP1:jb D ρ ρr W1 buf hr Vr x0 L f1:=RP.stays m.keep.os (m.left hH.half b7 be) (m.left hF.half b4 be) m.row;have r1:j7 W1 D.c n buf false s q tm:=by
       obtain ⟨a,k1,k2⟩:=r;exact ⟨a,m.row.trans k1,k2⟩
      rcases hcs with ⟨hg,S'⟩|⟨h1,V1,cc,v,z,hg,S1,rc,lc⟩|⟨r',v,z,n',b',s',q',tm',hg,hrow,S'⟩
      .obtain ⟨Y,ops,e1,e2,e3,e4,e5,e6⟩:=pM (K:=fun i=>i=D.k) hL Q (.inr rfl) hst (show stepG P (D.k==0) xk (W.at d)=_ by rw [hkk];exact hg);subst e2;exact Fin.next e1 (hO Y W1 sl' _ qs ρ ρr ρs' x0 s1 L Ls buf p n s q tm f1 1 RP1 (.run S') r1 Z J F hF' hH' (by rw [e5 0 x0 (by omega) h0,ft (RP1.again r1)]) e4 e6 (hP.symm.app m.le hF'.symm hsz (jF S'.sim m.ev D.k _ _)).symm)
      .obtain ⟨a,ha1,A⟩:=r1;have hlt:D.c<W1.heap.size:=(eS ha1).1;have hev:=jF S1.sim m.ev D.k xk.frame.fn xk.frame.place;have hP1:=(hP.symm.app m.le hF'.symm hsz hev).symm;have I:stepG P (D.k==0) xk (W.at d)=.comm s1 #[scase D.c v z] true .send W1 es:=by rw [hkk];exact hg
       have a3:∀ (W2:Wj),W2.os=W1.os->(∀b,b≠D.c->W2.heap[b]?=W1.heap[b]?)->∀n' b' s' q',j7 W2 D.c n' b' false s' q' tm->Ls++[v] <+:D.L/\Snd P ([trap P.alt],D.Bs) ρs' av (s1.finishComm P #[scase D.c v z] .send 0 Wo false) Vs' W2 D.cs D.c (Ls++[v]):=fun W2 a7 hb n' b' s' q' r2=>by
        obtain ⟨v0,bx,S2⟩:=S1.push rc lc a7 hb ⟨a,ha1,A⟩ r2;have ac:Ls++[v0] <+:D.L:=by
         obtain ⟨_,_,_,_,_,k1,k2⟩:=S2.row;exact k2▸(O.pre bl _ _ _ _ _ _ k1).2
        obtain rfl:v=v0:=(O.flat v0 (ac.subset (by simp)) ρs').2 v bx;exact ⟨ac,S2⟩
       have ad:∀y,(gs.setIfInBounds D.k y)[0]?=some x0:=fun y=>by rw [sN O.k0];exact h0
       have lv:∀ (y:Wk) (u:Trace),(∀B∈u,dg W1.heap.size B.act)->Lv P (fun i=>i=D.k) (t++(MemOp.ofEvents D.k xk.frame.fn xk.frame.place es++u)) (gs.setIfInBounds D.k y) qs:=fun y u hu=>hL.put (fun B f=>by
        rcases Array.mem_append.1 f with k|k
        .exact (hev B k).2.2.1
        .exact (hu B k).still) (by simp) (fun j hj T=>sN (fun e=>T e.symm))
       cases RP1 with
       |last C hb hp=>
        subst hb;obtain ⟨k1,-⟩:=a3 W1 rfl (fun _ _=>rfl) n [] s q ⟨a,ha1,A⟩;rw [J,F] at k1;have:=k1.length_le;simp only [lP,lC,lN] at this;omega
       | @park c3 b3 g1 h' V1' Vr1' V' vL z' L' sh C hb H E=>
        subst hb;have G:Conc.offersAt (parked g1 #[rcase D.c z'] sh) D.c false=[0]:=by rw [Conc.offersAt_parked_recv];simp
        have hrt:=Conc.crowd_send_meets (sl:=sl') (i:=D.k) (j:=0) Q I ha1 (Ne.symm O.k0) h0 (ow hL (.inr ⟨rfl,rfl⟩) O.k0 h0 D.c false G);have r2:=dF W1 D.c n a false (s+1) (q+1) tm hlt;rw [A] at r2;obtain ⟨k1,S2⟩:=a3 (W1.setChan D.c n a false (s+1) (q+1) tm) rfl (fun b hb=>aK _ _ _ _ _ _ _ _ hb) n [] (s+1) (q+1) r2;obtain ⟨L2,c4⟩:=vy (a:=Ls++[v]) (b:=[]) (c:=p) (v:=v) (l:=vL::L') (by rw [J];simp) (F▸k1);cases c4;have hv:v∈D.L:=k1.subset (by simp);have R2:=C.take O hv (W':=W1.setChan D.c n a false (s+1) (q+1) tm) rfl (fun b hb=>aK _ _ _ _ _ _ _ _ hb) ⟨a,ha1,A⟩ r2;have hu:∀B∈[({g:=D.k,fn:=s1.frame.fn,pos:=s1.frame.place,act:=.send D.c s}:MemOp),{g:=0,fn:=g1.frame.fn,pos:=g1.frame.place,act:=.recv D.c q n},{g:=D.k,fn:=s1.frame.fn,pos:=s1.frame.place,act:=.sendDone D.c s},{g:=0,fn:=g1.frame.fn,pos:=g1.frame.place,act:=.recvDone D.c q}],(B.g=0\/B.g=D.k)/\dg W1.heap.size B.act:=fun B f=>by
         simp at f;rcases f with rfl|rfl|rfl|rfl
         .exact ⟨.inr rfl,hlt⟩
         .exact ⟨.inl rfl,hlt⟩
         .exact ⟨.inr rfl,hlt⟩
         .exact ⟨.inl rfl,hlt⟩
        refine Fin.next (hst.trans hrt) (hO _ _ sl' _ qs ρ ρr ρs' (g1.finishComm P #[rcase D.c z'] sh 0 v true) _ L' (Ls++[v]) [] (p++[v]) n (s+1) (q+1) tm 1 1 (.run R2 H E) (.run S2) r2 Z (by rw [J];simp) (by rw [F];simp) hF' hH'.set (by rw [sN O.k0];simp [hlt0]) (by simp [N]) (hL.put (fun B f=>?_) (by simp) (fun j hj T=>by rw [sN (fun e=>T e.symm),sN (by omega)])) ?_)
        .rcases Array.mem_append.1 f with k|k
         .exact (hev B k).2.2.1
         .exact (hu B (by simpa using k)).2.still
        .rw [<-Array.append_assoc,ct];exact PhT.ops hF' _ _ hP1 hu
       | @run h' _ V' _ R H E=>
        have G:Conc.offersAt x0 D.c false=[]:=Conc.offersAt_of_not_blocked (by rw [R.run];exact fun h=>by cases h) _ _;have hp0:=gr (i:=D.k) hL (.inr ⟨rfl,rfl⟩) h0 D.c false G;by_cases hroom:a.size<n
        .have hrt:=Conc.crowd_send_room (sl:=sl') (i:=D.k) Q I ha1 hroom hp0;have r2:=dF W1 D.c n (a.push v) false (s+1) q tm hlt;rw [Array.toList_push,A] at r2;obtain ⟨k1,S2⟩:=a3 (W1.setChan D.c n (a.push v) false (s+1) q tm) rfl (fun b hb=>aK _ _ _ _ _ _ _ _ hb) n (buf++[v]) (s+1) q r2;have R2:=R.other (W1:=W1.setChan D.c n (a.push v) false (s+1) q tm) rfl (fun b hb=>aK _ _ _ _ _ _ _ _ hb) ⟨a,ha1,A⟩ r2;have hu:∀B∈[({g:=D.k,fn:=s1.frame.fn,pos:=s1.frame.place,act:=.send D.c s}:MemOp),{g:=D.k,fn:=s1.frame.fn,pos:=s1.frame.place,act:=.sendDone D.c s}],(B.g=0\/B.g=D.k)/\dg W1.heap.size B.act:=fun B f=>by
          simp at f;rcases f with rfl|rfl<;>exact ⟨.inr rfl,hlt⟩
         refine Fin.next (hst.trans hrt) (hO _ _ sl' _ qs ρ ρr ρs' x0 _ L (Ls++[v]) (buf++[v]) p n (s+1) q tm 1 1 (.run R2 H E) (.run S2) r2 Z (by rw [J];simp) F hF' hH'.set (ad _) (by simp [N]) (lv _ _ (fun B f=>(hu B (by simpa using f)).2)) ?_)
         rw [<-Array.append_assoc,ct];exact PhT.ops hF' _ _ hP1 hu
        .have ab:n<=a.size:=by omega
         have hrt:=Conc.crowd_waits (sl:=sl') (i:=D.k) Q I (fun cc ap=>by
          simp at ap;subst ap;exact Conc.ways_send_none ha1 ab hp0)
         refine Fin.next (hst.trans hrt) (hO _ W1 sl' _ qs ρ ρr ρs' x0 _ L Ls buf p n s q tm 1 0 (.run R H E) (.park S1 rc lc (by rw [<-A,lY];exact ab)) ⟨a,ha1,A⟩ Z J F hF' hH' (ad _) (by simp [N]) ?_ hP1)
         have:=lv (parked s1 #[scase D.c v z] .send) #[] (fun B f=>by simp at f);rw [Array.append_empty] at this;exact this
       | @pre h' g' _ V' _ k R H E af hy=>
        have G:Conc.offersAt x0 D.c false=[]:=Conc.offersAt_of_not_blocked (by rw [hy.status R.run];exact fun h=>by cases h) _ _;have hp0:=gr (i:=D.k) hL (.inr ⟨rfl,rfl⟩) h0 D.c false G;by_cases hroom:a.size<n
        .have hrt:=Conc.crowd_send_room (sl:=sl') (i:=D.k) Q I ha1 hroom hp0;have r2:=dF W1 D.c n (a.push v) false (s+1) q tm hlt;rw [Array.toList_push,A] at r2;obtain ⟨k1,S2⟩:=a3 (W1.setChan D.c n (a.push v) false (s+1) q tm) rfl (fun b hb=>aK _ _ _ _ _ _ _ _ hb) n (buf++[v]) (s+1) q r2;have R2:=R.other (W1:=W1.setChan D.c n (a.push v) false (s+1) q tm) rfl (fun b hb=>aK _ _ _ _ _ _ _ _ hb) ⟨a,ha1,A⟩ r2;have hu:∀B∈[({g:=D.k,fn:=s1.frame.fn,pos:=s1.frame.place,act:=.send D.c s}:MemOp),{g:=D.k,fn:=s1.frame.fn,pos:=s1.frame.place,act:=.sendDone D.c s}],(B.g=0\/B.g=D.k)/\dg W1.heap.size B.act:=fun B f=>by
          simp at f;rcases f with rfl|rfl<;>exact ⟨.inr rfl,hlt⟩
         refine Fin.next (hst.trans hrt) (hO _ _ sl' _ qs ρ ρr ρs' x0 _ L (Ls++[v]) (buf++[v]) p n (s+1) q tm (k+2) 1 (.pre k R2 H E af (hy.rely (aK _ _ _ _ _ _ _ _ af.2))) (.run S2) r2 Z (by rw [J];simp) F hF' hH'.set (ad _) (by simp [N]) (lv _ _ (fun B f=>(hu B (by simpa using f)).2)) ?_)
         rw [<-Array.append_assoc,ct];exact PhT.ops hF' _ _ hP1 hu
        .have ab:n<=a.size:=by omega
         have hrt:=Conc.crowd_waits (sl:=sl') (i:=D.k) Q I (fun cc ap=>by
          simp at ap;subst ap;exact Conc.ways_send_none ha1 ab hp0)
         refine Fin.next (hst.trans hrt) (hO _ W1 sl' _ qs ρ ρr ρs' x0 _ L Ls buf p n s q tm (k+2) 0 (.pre k R H E af hy) (.park S1 rc lc (by rw [<-A,lY];exact ab)) ⟨a,ha1,A⟩ Z J F hF' hH' (ad _) (by simp [N]) ?_ hP1)
         have:=lv (parked s1 #[scase D.c v z] .send) #[] (fun B f=>by simp at f);rw [Array.append_empty] at this;exact this
      .have hev:=jF S'.sim m.ev D.k xk.frame.fn xk.frame.place;have hrt:=nu (sl:=sl') (i:=D.k) Q (show stepG P (D.k==0) xk (W.at d)=_ by rw [hkk];exact hg) hrow;exact Fin.next (hst.trans hrt) (hO _ W1 sl' _ qs ρ ρr ρs' x0 _ L Ls buf p n s q tm f1 1 RP1 (.run S') r1 Z J F hF' hH' (by rw [sN O.k0];exact h0) (by simp [N]) (hL.put (fun B f=>(hev B f).2.2.1) (by simp) (fun j hj T=>sN (fun e=>T e.symm))) (hP.symm.app m.le hF'.symm hsz hev).symm)
     .obtain ⟨a,ha1,A⟩:=r;have hlt:D.c<W.heap.size:=(eS ha1).1;have ca:Ls=D.L:=by
       obtain ⟨n0,b0,s0,q0,b5,k1,k2⟩:=S.row;rw [<-k2];exact (O.ts hs Vs cm _ _ _ _ _ _ k1).2
      have bw:buf=L:=by
       have:p++buf=p++L:=by rw [<-J,<-F,ca]
       exact List.append_cancel_left this
      obtain ⟨g',c6,cv,hg,mQ,hQ⟩:=O.close hs Vs ρs xk (W.at d) cm ((ca▸S).stays rfl (fun _ _ _ _=>rfl) rfl) n a s q tm ha1;have hrt:=runT_crowd_go (P:=P) (sl:=sl') (i:=D.k) Q (show stepG P (D.k==0) xk (W.at d)=_ by rw [hkk];exact hg);have hw:∀o,woken P xk g' (d8 (W.at d) D.c n a s q tm) o=o.again (d8 (W.at d) D.c n a s q tm):=fun o=>by
       unfold Conc.woken;rw [c6,cv];rfl
      have bd:j7 (d8 (W.at d) D.c n a s q tm) D.c n L true s q tm:=by
       have:=dF (W.at d) D.c n a true s q tm hlt;rw [A,bw] at this;exact this
      have cb:MemOp.ofEvents D.k xk.frame.fn xk.frame.place #[⟨.obj D.c,false,true⟩,⟨.obj D.c,true,true⟩]=#[{g:=D.k,fn:=xk.frame.fn,pos:=xk.frame.place,act:=.access ⟨.obj D.c,false,true⟩}]++#[{g:=D.k,fn:=xk.frame.fn,pos:=xk.frame.place,act:=.close D.c}]:=by rw [Conc.ofEvents_eq];simp [MemAct.ofEvent]
      rw [cb] at hrt;have a0:∀B∈(#[{g:=D.k,fn:=xk.frame.fn,pos:=xk.frame.place,act:=.access ⟨.obj D.c,false,true⟩}]++#[{g:=D.k,fn:=xk.frame.fn,pos:=xk.frame.place,act:=.close D.c}]:Trace),B.act≠.mark .disable/\B.act≠.mark .enable:=fun B f=>by
       simp at f;rcases f with rfl|rfl<;>exact ⟨by simp,by simp⟩
      have hP1:=(hP.symm.app (u:=#[{g:=D.k,fn:=xk.frame.fn,pos:=xk.frame.place,act:=.access ⟨.obj D.c,false,true⟩}]) (Ren.le_refl _) hF.symm (lR _) (fun B f=>by
       simp at f;subst f;refine ⟨rfl,hlt,⟨by simp,by simp⟩,fun x hx=>?_⟩;simp only [MemAct.touch?,oI] at hx;subst hx;exact ⟨D.cs,S.pair,(fun h=>by cases h),(fun h=>by simp at h)⟩)).symm
      have hPC:=hP1.close (y:={g:=D.k,fn:=xk.frame.fn,pos:=xk.frame.place,act:=.close D.c}) ⟨rfl,rfl⟩ hlt;have a8:(d8 (W.at d) D.c n a s q tm).heap.size=W.heap.size:=ct _ _ _ _ _ _ _ _;have ck:((gs.map (woken P xk g' (d8 (W.at d) D.c n a s q tm))).setIfInBounds D.k g').size=gs.size:=by simp
      have a5:Lv P (fun _=>False) (t++(#[{g:=D.k,fn:=xk.frame.fn,pos:=xk.frame.place,act:=.access ⟨.obj D.c,false,true⟩}]++#[{g:=D.k,fn:=xk.frame.fn,pos:=xk.frame.place,act:=.close D.c}])) ((gs.map (woken P xk g' (d8 (W.at d) D.c n a s q tm))).setIfInBounds D.k g') (upd qs D.k mQ):=by
       refine ⟨fun j y hj _ hy=>?_,fun j hj=>?_⟩
       .rw [bF t j _ a0];by_cases T:D.k=j
        .subst T;rw [sS (by simpa using N)] at hy;cases hy;rw [upd_same,hP.hq];exact hQ
        .rw [sN T,Array.getElem?_map] at hy;obtain ⟨z,hz,rfl⟩:=Option.map_eq_some_iff.1 hy;have hq:=hL.old j z hj (fun e=>T e.symm) hz;rw [ft (ja hq _),upd_ne qs mQ (Ne.symm T)];exact hq
       .rw [bF t j _ a0];exact hL.above j (by rw [ck] at hj;exact hj)
      have I:((gs.map (woken P xk g' (d8 (W.at d) D.c n a s q tm))).setIfInBounds D.k g')[0]?=some (x0.again (d8 (W.at d) D.c n a s q tm)):=by
       rw [sN O.k0,Array.getElem?_map,h0];simp only [Option.map_some,hw]
      obtain ⟨pc,a9⟩:∃pc,PhC D.c pc ρs (d8 (W.at d) D.c n a s q tm).heap.size (t++(#[{g:=D.k,fn:=xk.frame.fn,pos:=xk.frame.place,act:=.access ⟨.obj D.c,false,true⟩}]++#[{g:=D.k,fn:=xk.frame.fn,pos:=xk.frame.place,act:=.close D.c}])):=by
       rw [a8,<-Array.append_assoc];exact ⟨_,hPC⟩
      have U:∀b,b≠D.c->(d8 (W.at d) D.c n a s q tm).heap[b]?=W.heap[b]?:=fun b hb=>aK _ _ _ _ _ _ _ _ hb
      refine Fin.next (hst.trans hrt) ?_
      cases RP with
      | @run h' _ V' _ R H E=>
       have b1:x0.again (d8 (W.at d) D.c n a s q tm)=x0:=Conc.again_running _ (.inl R.run);rw [b1] at I;exact al _ _ sl' _ _ ρ ρr ρs h' x0 V' L n s q tm _ (R.other rfl U ⟨a,ha1,A⟩ bd) H E (fun v hv=>by rw [F];simp [hv]) bd hF (hH.at d).out.shut (fun y b k=>by rw [a8];exact (S.sim.lt k).2) I a5 a9
      |park C hb _ _=>rw [hb] at bw;cases bw
      | @pre h' g1 _ V' _ k R H E af hy=>
       have b1:x0.again (d8 (W.at d) D.c n a s q tm)=x0:=Conc.again_running _ (.inl (hy.status R.run));rw [b1] at I;exact xx al H E (fun v hv=>by rw [F];simp [hv]) hF af.1 k _ _ sl' _ _ x0 (R.other rfl U ⟨a,ha1,A⟩ bd) (hy.rely (U _ af.2)) bd (hH.at d).out.shut (fun y b k=>by rw [a8];exact (S.sim.lt k).2) I a5 a9
      | @last c3 b3 g1 h' hr'' V1' Vr1' V' Vr'' z' sh C hb E=>
       obtain ⟨a2,hr2,bk⟩:=bd;rw [Conc.again_recv_closed hr2] at I;exact ue O E (sumTo _ (upd qs D.k mQ)) _ _ sl' _ _ (lR _) ⟨C.at1.other rfl U ⟨a,ha1,A⟩ ⟨a2,hr2,bk⟩,C.sh,C.atc,C.rc,C.rcr⟩ ⟨a2,hr2,bk⟩ (hH.at d).out.shut I a5 a9
   .have bv:∀j o,(j=0\/j=D.k)->gs[j]?=some o->o.again (W.at d)=o:=fun j o hj ho=>by
     rcases hj with rfl|rfl
     .rw [h0] at ho;cases ho;exact RP.again (w:=W.at d) r
     .rw [hk] at ho;cases ho;exact SP.again (w:=W.at d) r
    obtain ⟨Y,q',ops,e1,e2,e3,e4,e5,e6,-⟩:=slip (K:=fun i=>i=D.k) hL hP (fun t i fn pos es Q hk h hm=>h.mute Q hk hm) Q hx (by omega) bb bv hst;exact Fin.next e1 (ih _ (by omega) Y (W.at d) sl' (t++ops) q' ρ ρr ρs x0 xk f1 f2 (RP.stays rfl (fun _ _ _ _=>rfl) (fun _ _ _ _=>rfl) rfl) (SP.stays rfl (fun _ _ _ _=>rfl) rfl) r hF (hH.at d) ((e3 0 (.inl rfl)).trans h0) ((e3 D.k (.inr rfl)).trans hk) e4 e5 (lR _))
theorem EE (O:vt P D Post){hr:Wk}{Vr:Wj}(hD:Dem P.alt D.Nr D.Tr hr Vr):∀hs Vs,Dem P.alt D.Ns D.Ts hs Vs->ig P D Post hr Vr hs Vs:=by
 induction hD with
 | @stop g w u=>
  have hcl:=rn O (.stop (N:=D.Nr) u);obtain ⟨h1,h2,h3⟩:=O.tr g w u;have r:∀τ d,∃a Vr',LS P.alt g (w.on τ d) a Vr':=fun τ d=>by
   obtain ⟨_,_,_,_,_,h',V',e,l⟩:=h3 τ d;exact ⟨h',V',.comm e l⟩
  have hn:∀τ d a Vr',LS P.alt g (w.on τ d) a Vr'->(∀hs Vs,Dem P.alt D.Ns D.Ts hs Vs->ig P D Post a Vr' hs Vs)\/((∀n b s q tm,w.heap[D.cr]?=some (.chan n b true s q tm)->b.toList=[])/\∃h1 cc s V1 es,stepG P.alt true g (w.on τ d)=.comm h1 cc true s V1 es):=fun τ d a Vr' _=>.inr ⟨h2,by
   obtain ⟨_,_,_,_,_,h',V',e,l⟩:=h3 τ d;exact ⟨_,_,_,_,_,e⟩⟩
  intro hs Vs k;induction k with
  |stop h=>exact mG O (.stop h) h1 r hn hcl (.inr h)
  |step o m c hnx ih=>exact mG O (.step o m c hnx) h1 r hn hcl (.inl ⟨O.ns _ _ o,fun τ d=>⟨c τ d,fun f Vs' l=>⟨hnx τ d f Vs' l,ih τ d f Vs' l⟩⟩⟩)
 | @step g w o u c hnx p=>
  have hcl:=rn O (.step o u c hnx);intro hs Vs k;induction k with
  |stop h=>exact mG O (.stop h) (O.nr g w o) c (fun τ d a Vr' l=>.inl (p τ d a Vr' l)) hcl (.inr h)
  |step t m i j ih=>exact mG O (.step t m i j) (O.nr g w o) c (fun τ d a Vr' l=>.inl (p τ d a Vr' l)) hcl (.inl ⟨O.ns _ _ t,fun τ d=>⟨i τ d,fun f Vs' l=>⟨j τ d f Vs' l,ih τ d f Vs' l⟩⟩⟩)
end
section
variable {P:Wv} [Two P] {X:List Wy×List Wy} {A:Nat->Prop} {G:FuncId->Bool} {g g':Wk} {w w':Wj}
theorem jC.grow (B:bM P)(z:bV P)(C:G FX=false){cs:Nat}(hA:A cs)(h:jC P X A G g w)(hl:LS P g w g' w'){n:Nat}{b:Array Wx}{cl:Bool}{s q:Nat}{tm:Bool}(hr:w.heap[cs]?=some (.chan n b cl s q tm)):
  ∃o b' a s' q' j,w'.heap[cs]?=some (.chan o b' a s' q' j)/\((b.toList <+:b'.toList/\(cl=true->a=true))\/a=true):=by
 obtain ⟨⟨hrn,ρ,k,u,m,S,D,E,ho,hwi,⟨hch,t,p⟩,hold,hmk⟩,hb⟩:=h;have hin:Base X g.frame k.callers:=fun e=>hb (m.callers.tail e)
 have sf:=iK B E z D true m hin (S.onR w.tape w.drawn) (fun i=>rfl);obtain ⟨b0,x⟩:=t cs hA;have row:∀ {ρ':Ren} {v v':Wj},Reach ρ ρ' w (u.on w.tape w.drawn) v v'->∃o b' a s' q' j,v.heap[cs]?=some (.chan o b' a s' q' j)/\((b.toList <+:b'.toList/\(cl=true->a=true))\/a=true):=fun R=>by
  rcases R.chs.row cs b0 (by rw [hch];exact hA) x with ⟨e,-⟩|⟨-,o,b',s',q',j,e⟩
  .exact ⟨_,_,_,_,_,_,e.trans hr,.inl ⟨List.prefix_refl _,fun h=>h⟩⟩
  .exact ⟨_,_,_,_,_,_,e,.inr rfl⟩
 rcases sf.rel with ⟨h1,-⟩|⟨-,h2⟩|⟨f,_,_,_,_,_,_,_,_,_,_,_,A⟩
 rotate_left 2
 .exact absurd A.mark (hmk f)
 .cases hl with
  |go h hr hd=>
   rw [h] at h1;obtain ⟨⟨d,f,e,-⟩,-⟩:=h1;rw [hd] at e;cases e
  |comm h _=>rw [h] at h1;exact h1.elim
 .cases hl with
  |go h hr hd=>
   rw [h] at h2;generalize stepG P true k (u.on w.tape w.drawn)=y at h2;cases h2 with
   |go es ρ' R hg he=>exact row R
  | @comm g1 c s1 w1 es _ _ h hc=>
   rw [h] at h2;generalize stepG P true k (u.on w.tape w.drawn)=y at h2;cases h2 with
   | @comm _ k1 _ c' hC _ hs hrun _ u1 _ es' ρ' R hg hcc he _=>
    have l:c.send≠none:=fun e=>by have:=hC.2 e;rw [p,C] at this;cases this
    obtain ⟨n1,b1,cl1,s1',q1,tm1,e1,e2⟩:=row R;cases hc with
    |recv q1 q2 q3 q4=>exact absurd q2 l
    |shut q1 q2 q3=>exact absurd q2 l
    |dead q1 q2 q3=>exact ⟨_,_,_,_,_,_,e1,e2⟩
    | @send r cap sent rcvd buf tm0 v0 q1 q2 q3 q4=>
     by_cases e:r=cs
     .subst e;rw [e1] at q3;cases q3;have hlt:=(eS e1).1;refine ⟨_,_,_,_,_,_,sS hlt,?_⟩;rcases e2 with ⟨k1,k2⟩|k
      .exact .inl ⟨k1.trans (by rw [Array.toList_push];exact List.prefix_append _ _),k2⟩
      .cases k
     .exact ⟨_,_,_,_,_,_,by simp only [sN e];exact e1,e2⟩
end
theorem ii {α:Type}{p b:α->Bool}(hp:∀a,p a=true->b a=true){l:Array α}(h:l.all p=true):l.all b=true:=by
 rw [Array.all_eq_true] at h ⊢;exact fun i c=>hp _ (h i c)
section
variable {P:Wv} {F F':FuncId->Bool} (hF:∀f,F f=true->F' f=true)
include hF
theorem kx {x:Operand}(h:okX P F x=true):okX P F' x=true:=by
 cases x with
 |func f=>exact hF f h
 |_=>exact h
theorem vz {b:Builtin}(h:BZ F b=true):BZ F' b=true:=by
 unfold BZ at h ⊢;rw [Bool.or_eq_true] at h ⊢;refine h.imp id (fun h=>?_);cases b<;>first|exact hF _ h|exact h
theorem ky {c:Call}(h:jy P F c=true):jy P F' c=true:=by
 unfold jy at h ⊢;rw [bT] at h ⊢;refine ⟨?_,ii (fun _=>kx hF) h.2⟩;have h1:=h.1;cases hc:c.callee with
 |builtin b=>rw [hc] at h1;simp only [bT] at h1 ⊢;exact ⟨vz hF h1.1,h1.2⟩
 |value f=>rw [hc] at h1;exact kx hF h1
 |invoke a b=>rw [hc] at h1;exact h1
theorem uf {c:Call}(h:j9 P F c=true):j9 P F' c=true:=by
 unfold j9 at h ⊢;rw [Bool.or_eq_true,bT] at h ⊢;refine h.imp (ky hF) (fun h=>⟨?_,ii (fun _=>kx hF) h.2⟩);have h1:=h.1;split at h1
 .rw [bT] at h1 ⊢;exact ⟨hF _ h1.1,h1.2⟩
 .cases h1
theorem vB {o:Op}(h:fH P F o=true):fH P F' o=true:=by
 have hx:∀ {x:Operand},okX P F x=true->okX P F' x=true:=fun h=>kx hF h
 have ho:∀ {x:Option Operand},x.all (okX P F)=true->x.all (okX P F')=true:=fun {x} h=>by
  cases x with
  |none=>rfl
  |some x=>exact hx h
 cases o with
 |makeFunc f a c=>
  cases f with
  |func f=>
   simp only [fH,bT] at h ⊢;exact ⟨⟨hF _ h.1.1,ii (fun _=>hx) h.1.2⟩,ii (fun _=>hx) h.2⟩
  |_=>exact h
 |makeMap t r=>cases r<;>exact h
 |call c=>exact uf hF h
 |defer c=>simp only [fH,bT,Bool.or_eq_true] at h ⊢;exact ⟨h.1.imp (hF _) (hF _),ky hF h.2⟩
 |go c=>simp only [fH,bT] at h ⊢;exact ⟨hF _ h.1,ky hF h.2⟩
 |slice t x lo hi mx=>simp only [fH,bT] at h ⊢;exact ⟨⟨⟨hx h.1.1.1,ho h.1.1.2⟩,ho h.1.2⟩,ho h.2⟩
 |build t ps=>exact ii (fun _=>hx) h
 |buildSlice t n ps=>exact ii (fun _=>hx) h
 |recv t x b=>simp only [fH,bT] at h ⊢;exact ⟨hF _ h.1,hx h.2⟩
 |makeChan t x=>simp only [fH,bT] at h ⊢;exact ⟨hF _ h.1,hx h.2⟩
 |send a x=>simp only [fH,bT] at h ⊢;exact ⟨⟨hF _ h.1.1,hx h.1.2⟩,hx h.2⟩
 |pick a b c=>simp only [fH,bT] at h ⊢;exact ⟨⟨hx h.1.1,hx h.1.2⟩,hx h.2⟩
 |binOp op t a x r=>simp only [fH,bT] at h ⊢;exact ⟨⟨hx h.1.1,hx h.1.2⟩,h.2⟩
 |store t a x=>simp only [fH,bT] at h ⊢;exact ⟨hx h.1,hx h.2⟩
 |makeSlice t a x=>simp only [fH,bT] at h ⊢;exact ⟨hx h.1,hx h.2⟩
 |indexAddr t a x=>simp only [fH,bT] at h ⊢;exact ⟨hx h.1,hx h.2⟩
 |index t a x=>simp only [fH,bT] at h ⊢;exact ⟨hx h.1,hx h.2⟩
 |convert s d x=>simp only [fH,bT] at h ⊢;exact ⟨h.1,hx h.2⟩
 |lookup t x i b=>simp only [fH,bT] at h ⊢;exact ⟨⟨h.1.1,hx h.1.2⟩,hx h.2⟩
 |mapUpdate t m k x=>simp only [fH,bT] at h ⊢;exact ⟨⟨⟨h.1.1.1,hx h.1.1.2⟩,hx h.1.2⟩,hx h.2⟩
 |_=>first|exact hx h|exact h
theorem eP:∀ {c:Code},aG P F c=true->aG P F' c=true:=by
 intro c;induction c with
 |region id ops d=>intro h;exact ii (fun _=>vB hF) h
 |seq a b i e=>intro h;simp only [aG,bT] at h ⊢;exact ⟨i h.1,e h.2⟩
 |cond c a b i e=>intro h;simp only [aG,bT] at h ⊢;exact ⟨⟨kx hF h.1.1,i h.1.2⟩,e h.2⟩
 |block id a ih=>intro h;exact ih h
 |loop a ih=>intro h;exact ih h
 |scope a ih=>intro h;exact ih h
 |rangeFunc f ps a b i e=>intro h;simp only [aG,bT] at h ⊢;exact ⟨⟨kx hF h.1.1,i h.1.2⟩,e h.2⟩
 |_=>intro h;exact h
end
structure Ren.sub' (ρ ρ':Ren):Prop where
 rel:∀a b,ρ a b->ρ' a b
 prog:ρ'.prog=ρ.prog
 F:∀f,ρ.F f=true->ρ'.F f=true
 bad:ρ'.bad=ρ.bad
section
variable {ρ ρ':Ren} (l:ρ.sub' ρ')
include l
theorem RA.re {a a':Wu}(h:RA ρ a a'):RA ρ' a a':=⟨l.rel _ _ h.1,h.2⟩
theorem RAo.re {a a':Option Wu}(h:RAo ρ a a'):RAo ρ' a a':=by
 cases h with
 |none=>exact .none
 |some h=>exact .some (RA.re l h)
theorem RNo.re {a a':Option Nat}(h:RNo ρ a a'):RNo ρ' a a':=by
 cases h with
 |none=>exact .none
 |some h=>exact .some (l.rel _ _ h)
theorem RFn.re {a a':Fn}(h:RFn ρ a a'):RFn ρ' a a':=by
 cases h with
 |func f h=>exact .func f (l.F _ h)
 |yield h=>exact .yield (l.rel _ _ h)
theorem RV.re {v v':Wx}(h:RV ρ v v'):RV ρ' v v':=by
 induction h with
 |bool b=>exact .bool b
 |int k n=>exact .int k n
 |string s=>exact .string s
 |pointer h=>exact .pointer (RAo.re l h)
 |slice n c h=>exact .slice n c (RAo.re l h)
 |map h=>exact .map (RNo.re l h)
 |chan h=>exact .chan (RNo.re l h)
 |func hf ha hc _ _ d i2=>exact .func (RFn.re l hf) ha hc d i2
 |nilFunc=>exact .nilFunc
 |iface t _ ih=>exact .iface t ih
 |nilIface=>exact .nilIface
 |agg hc _ ih=>exact .agg hc ih
 |tuple hc _ ih=>exact .tuple hc ih
 |dead v' h=>exact .dead v' h
 |odd n s a c hn=>exact .odd n s a c (hn.trans l.bad.symm)
theorem RVs.re {c c':Array Wx}(h:RVs ρ c c'):RVs ρ' c c':=⟨h.size,fun i v v' h1 h2=>RV.re l (h.at_ i v v' h1 h2)⟩
theorem RT.re {a a':Target}(h:RT ρ a a'):RT ρ' a a':=by
 cases h with
 |fn hf hc=>exact .fn (RFn.re l hf) (RVs.re l hc)
 |nil=>exact .nil
 |builtin b hb a ha t cs=>exact .builtin b (vz l.F hb) a (by rw [l.prog];exact ha) t cs
 |collected h=>exact .collected (l.rel _ _ h)
theorem RD.re {a a':Deferred}(h:RD ρ a a'):RD ρ' a a':=by
 cases h with
 |mk h1 h2=>exact .mk (RT.re l h1) (RVs.re l h2)
 |odd n v a s c a' hn=>exact .odd n v a s c a' (hn.trans l.bad.symm)
theorem RDs.re {a a':List Deferred}(h:RDs ρ a a'):RDs ρ' a a':=by
 induction h with
 |nil=>exact .nil
 |cons h _ hS ih=>exact .cons (RD.re l h) ih (hS.imp id (fun k=>by
  rw [Bool.or_eq_true] at k ⊢;exact k.imp (l.F _) (l.F _)))
theorem RL.re {a a':Loop}(h:RL ρ a a'):RL ρ' a a':=⟨h.state,h.pending,h.fn,RVs.re l h.tmps,h.params,h.assign,h.body,l.rel _ _ h.defers,by rw [l.prog];exact eP l.F h.okA,by rw [l.prog];exact eP l.F h.okBo,fun c e=>by rw [l.prog];exact eP l.F (h.okP c e)⟩
theorem RMs.re {a a':List MapEntry}(h:RMs ρ a a'):RMs ρ' a a':=by
 induction h with
 |nil=>exact .nil
 |cons b hk h _ ih=>exact .cons b (RV.re l hk) (RV.re l h) ih
theorem RO.re (hb:ρ'.F lm=ρ.F lm){a a':Obj}(h:RO ρ a a')(hc:a.isChan=true->RO ρ' a a'):RO ρ' a a':=by
 cases h with
 |cells e hz h=>exact .cells e (by rw [hb];exact hz) (RVs.re l h)
 |chan=>exact hc rfl
 |map c h=>exact .map c (RMs.re l h)
 |stringIter s n=>exact .stringIter s n
 |loop h=>exact .loop (RL.re l h)
 |deferred h=>exact .deferred (RDs.re l h)
 |taken=>exact .taken
 |number b h=>exact .number b (RA.re l h)
 |dead _ h=>exact .dead _ h
variable {P:Wv}
theorem RI.re {i i':Item}(h:RI P ρ i i'):RI P ρ' i i':=by
 cases h with
 |code h=>exact .code (eP l.F h)
 |inBlock id=>exact .inBlock id
 |inLoop h=>exact .inLoop (eP l.F h)
 |inScope h=>exact .inScope (eP l.F h)
 |inRegion k h=>exact .inRegion k (ii (fun _=>vB l.F) h)
 |regionEnd a b=>exact .regionEnd a b
 |inRangeFunc h=>exact .inRangeFunc (l.rel _ _ h)
 |endRangeFunc h=>exact .endRangeFunc (l.rel _ _ h)
 |beginRound=>exact .beginRound
theorem RIs.re {k k':List Item}(h:RIs P ρ k k'):RIs P ρ' k k':=by
 induction h with
 |nil=>exact .nil
 |cons h _ ih=>exact .cons (RI.re l h) ih
theorem RPn.re {k k':List PanicEntry}(h:RPn ρ k k'):RPn ρ' k k':=by
 induction h with
 |nil=>exact .nil
 |cons r g h _ ih=>exact .cons r g (RV.re l h) ih
theorem RM.re {m m':FrameMode}(h:RM ρ m m'):RM ρ' m m':=by
 cases h with
 |run=>exact .run
 |returning=>exact .returning
 |panicking h=>exact .panicking (RPn.re l h)
theorem RFr.re {f f':Wy}(h:RFr P ρ f f'):RFr P ρ' f f':=⟨h.fn,RVs.re l h.tmps,RIs.re l h.todo,RDs.re l h.defers,RM.re l h.mode,h.early,RNo.re l h.round⟩
theorem RFs.re {X Y:List Wy×List Wy}(a:RFs P ρ' Y X.1 X.2)(h2:2<=X.1.length)(hne:Y.2.length<X.2.length){k k':List Wy}(h:RFs P ρ X k k'):RFs P ρ' Y k k':=by
 induction h with
 |base=>exact a
 |cons h hk hl ih=>
  refine .cons (RFr.re l h) ⟨fun _=>hk.1 (.inr h2),fun e=>?_⟩ ih;have:=hl.len;rw [e] at this;omega
theorem RGo.re {X Y:List Wy×List Wy}(a:RFs P ρ' Y X.1 X.2)(h2:2<=X.1.length)(hne:Y.2.length<X.2.length){g g':Wk}(h:RGo P ρ X g g'):RGo P ρ' Y g g':=by
 refine ⟨RFr.re l h.frame,RFs.re l a h2 hne h.callers,⟨fun _=>h.kind.1 (.inr h2),fun e=>?_⟩,h.status,h.dying,h.offers⟩;have:=h.callers.len;rw [e] at this;omega
end
section
open Go.Conc (crowd Past EvL Deaf QuitsD)
variable {P:Wv} [Two P]
def Ren.back (ρ ρ0:Ren):Ren where
 rel:=ρ.rel
 fn:=ρ.fn
 inj:=ρ.inj
 prog:=ρ.prog
 F:=ρ0.F
 old:=fun _=>False
 ch:=fun _=>False
 loose:=false
 wide:=false
 tight:=fun _=>rfl
 pin:=ρ.pin
 bad:=ρ.bad
 noM:=ρ.noM
theorem zI {D:PhD P}{Post:Wx->Wj->Prop}{ρ0:Ren}(m:∀a b,ρ0 a b->D.R0 a b)(j:GId P ρ0)(A:fD P ρ0.F)(hS:ρ0.F fK=false)(hBM:ρ0.F lp=false)(hF:∀f,D.Fp f=true->ρ0.F f=true)(p:ρ0.F lm=D.Fp lm)(u:ρ0.bad=D.U.bad)(z:RFs P ρ0 ([trap P.alt],[]) D.X.1 D.X.2)(h2:2<=D.X.1.length)(h3:0<D.X.2.length)
  (l:∀h V,LSs P.alt D.T D.h0 D.V0 h V->ou P D.U ρ0.F [] Post h V):
  ∀ρ h g V W n s q tm gs sl t qs,Side P D.X ρ h g V W D.cV D.c []->zH D ρ V W->Kp D.U W/\Off D.U ρ->W.heap[D.c]?=some (.chan n #[] true s q tm)->LSs P.alt D.T D.h0 D.V0 h V->gs[0]?=some g->Lv P (fun _=>False) t gs qs->Past gJ W.heap.size t->Fin P Post gs W sl t:=by
 intro ρ h g V W n s q tm gs sl t qs S O x hrow hp h0 y hP;have e:ρ0.prog=ρ.prog:=j.prog.trans S.gid.prog.symm;have l0:ρ0.sub' (ρ.back ρ0):=⟨fun a b k=>O.base.1 a b (m a b k),e.symm,fun f k=>k,x.2.2.2.2.trans u.symm⟩;have l1:ρ.sub' (ρ.back ρ0):=⟨fun a b k=>k,rfl,fun f k=>hF f (by rw [<-O.base.2];exact k),rfl⟩;have v:RFs P (ρ.back ρ0) ([trap P.alt],[]) D.X.1 D.X.2:=by
  have key:∀ {k k':List Wy},RFs P ρ0 ([trap P.alt],[]) k k'->RFs P (ρ.back ρ0) ([trap P.alt],[]) k k':=fun h=>by
   induction h with
   |base=>exact .base
   |cons h hk _ ih=>exact .cons (RFr.re l0 h) hk ih
  exact key z
 refine l h V hp gs g W sl t qs (ρ.back ρ0) h0 y hP ⟨RGo.re l1 v h2 h3 S.go,⟨fun a b d=>?_,fun a k=>k.elim,fun c k=>k.elim,S.sim.os,fun hb a c0 hp=>S.sim.pin (by rw [O.base.2,<-p];exact hb) a c0 hp⟩,⟨fun g hg=>O.base.1 _ _ (m _ _ (j.glob g hg)),S.gid.prog,j.code,j.alt,fun _ _ k=>k,j.same,j.size,j.apart⟩,A,hS,rfl,⟨rfl,rfl⟩,⟨hBM,fun a b o d ho hc=>?_⟩,x⟩
 rotate_left
 .by_cases ha:a=D.cV
  .subst ha;obtain ⟨r,b1,s1,q1,i,k1,k2⟩:=S.row;rw [k1] at ho;cases ho;have hb:b1=#[]:=Array.toList_inj.1 (by simpa using k2);subst hb;exact ⟨_,_,_,_,rfl⟩
  .obtain ⟨r,s1,q1,i,n2,s2,q2,k1,k2⟩:=O.rest a b (O.all a b o d ho hc) d ha;rw [k1] at ho;cases ho;exact ⟨_,_,_,_,rfl⟩
 obtain ⟨o,o',e1,e2,e3⟩:=S.sim.obj a b d;refine ⟨o,o',e1,e2,RO.re l1 (by rw [O.base.2];exact p) e3 (fun hc=>?_)⟩;by_cases ha:a=D.cV
 .subst ha;obtain rfl:b=D.c:=ρ.fn _ _ _ d S.pair;obtain ⟨r,b1,s1,q1,i,k1,k2⟩:=S.row;rw [k1] at e1;cases e1;rw [hrow] at e2;cases e2;have hb:b1=#[]:=Array.toList_inj.1 (by simpa using k2);subst hb;cases e3;exact .chan _ _ _ _ _ _ _ _ _ (.inr RVs.nil) (.inr rfl)
 .obtain ⟨r,s1,q1,i,n2,s2,q2,k1,k2⟩:=O.rest a b (O.all a b o d e1 hc) d ha;rw [k1] at e1;cases e1;rw [k2] at e2;cases e2;exact .chan _ _ _ _ _ _ _ _ _ (.inr RVs.nil) (.inr rfl)
end
section
open Go.Conc (crowd Past EvL Deaf QuitsD)
def dI (P:Wv):Wy:={(default:Wy) with fn:=P.funcs.size,defers:=[],mode:=.panicking [goexitEntry]}
section
variable {P:Wv}
theorem ug (w:Wj):stepG P false {frame:=dI P,callers:=[],status:=.running,dying:=none} w=.go {frame:=dI P,callers:=[],status:=.finished,dying:=none} w #[]:=by
 have hc:(dI P).catches P=false:=by
  have e:(dI P).todo=[]:=rfl;unfold Frame.catches;rw [e];cases P.funcs[(dI P).fn]?<;>rfl
 have e:stepG P false {frame:=dI P,callers:=[],status:=.running,dying:=none} w=unwind P false (dI P) [] none w:=rfl;rw [e];unfold unwind;simp only [hc];rfl
theorem xy {fr:Wy}{fn:Func}(hf:P.funcs[fr.fn]?=some fn)(hr:fn.results=#[])(hm:fr.mode=.returning)(hd:fr.defers=[])(w:Wj):stepG P false {frame:=fr,callers:=[dI P],status:=.running,dying:=none} w=.go {frame:=dI P,callers:=[],status:=.running,dying:=none} w #[]:=by
 have e1:(results fn fr.tmps).runT P w #[]=(.ok (.tuple #[]) w,#[]):=by
  unfold results;rw [hr,Array.mapM_eq_mapM_toList];rfl
 have e2:doReturn P false fr [dI P] none (.tuple #[]) w=.go {frame:=dI P,callers:=[],status:=.running,dying:=none} w #[]:=by
  unfold doReturn;cases h:fr.kind<;>rfl
 simp only [stepG,hm,unwind,hd,hf,e1,e2,fq,cn]
theorem xz {fr:Wy}{fn:Func}(hf:P.funcs[fr.fn]?=some fn)(hr:fn.results=#[])(hm:fr.mode=.returning)(hd:fr.defers=[]):QuitsD P 2 0 {frame:=fr,callers:=[dI P],status:=.running,dying:=none}:=
 .inr ⟨rfl,_,#[],by simp,xy hf hr hm hd,.inr ⟨rfl,_,#[],by simp,ug,rfl,rfl⟩⟩
theorem rp {c n s q:Nat}{b:Array Wx}{tm:Bool}{W:Wj}(at_:Array TypeId)(t:TypeId)(cs:Array Bool)(h:W.heap[c]?=some (.chan n b false s q tm)):(invoke (.builtin .close at_ t cs) #[.chan (some c)]).runT P W #[]=(.ok (.value (.tuple #[])) (d8 W c n b s q tm),#[⟨.obj c,false,true⟩,⟨.obj c,true,true⟩]):=by
 show Sem.runT P (Sem.getObj c _) W #[]=_;simp only [Sem.runT,h];show Sem.runT P (Sem.setObj c (.chan n b true s q tm) _) W _=_;simp only [Sem.runT,h];rfl
variable [Two P]
def EF (P:Wv) [Two P](f:FuncId)(cs:Nat)(h:Wk):Prop:=
 h.callers=[trap P.alt]/\h.frame.fn=f/\h.frame.mode=.returning/\∃at_ t k,h.frame.defers=[{target:=.builtin .close at_ t k,args:=#[.chan (some cs)]}]
theorem Cr {f:FuncId}{fn:Func}(i:P.funcs[f]?=some fn)(d:fn.results=#[]){ρ:Ren}{h g:Wk}{V W:Wj}{cs c:Nat}{L:List Wx}(S:Snd P ([trap P.alt],[dI P]) ρ h g V W cs c L)(hA:EF P f cs h){n:Nat}{b:Array Wx}{s q:Nat}{tm:Bool}(hrow:W.heap[c]?=some (.chan n b false s q tm)):
  ∃g',mayWake P g=true/\g'.status=.running/\stepG P false g W=.go g' (d8 W c n b s q tm) #[⟨.obj c,false,true⟩,⟨.obj c,true,true⟩]/\∃m,QuitsD P m 0 g':=by
 obtain ⟨h1,h2,h3,at_,t,k,h4⟩:=hA;have hcs:g.callers=[dI P]:=by
  have hl:=S.go.callers;rw [h1] at hl;generalize p:(([trap P.alt],[dI P]):List Wy×List Wy)=X at hl;generalize j:[trap P.alt]=l at hl;generalize g.callers=l' at hl ⊢;cases hl with
  |base=>rw [<-p]
  |cons _ _ hl=>
   cases j;have:=hl.len1;rw [<-p] at this;simp at this
 have hm:g.frame.mode=.returning:=by
  have:=S.go.frame.mode;rw [h3] at this;generalize g.frame.mode=x at this;cases this;rfl
 have hd:g.frame.defers=[{target:=.builtin .close at_ t k,args:=#[.chan (some c)]}]:=by
  have:=S.go.frame.defers;rw [h4] at this;generalize g.frame.defers=x at this;cases this with
  | @cons _ d' _ _ hd hl _=>
   cases hl;obtain ⟨tg,u⟩:=d';obtain ⟨ht,ha⟩:=hd;simp only at ht ha;cases ht;have hsz:=ha.size;obtain ⟨l⟩:=u;rcases l with - |⟨x,- |⟨y,l⟩⟩<;>simp at hsz
   have:=ha.at_ 0 _ x rfl rfl;cases this with
   |chan hc=>
    cases hc with
    |some hc=>rw [ρ.fn _ _ _ hc S.pair]
 have a:P.funcs[g.frame.fn]?=some fn:=by rw [<-S.go.frame.fn,h2];exact i
 have e:seen P g.frame.fn #[⟨.obj c,false,true⟩,⟨.obj c,true,true⟩]=#[⟨.obj c,false,true⟩,⟨.obj c,true,true⟩]:=by unfold seen;simp
 obtain ⟨fr,cl,st,r,of⟩:=g;simp only at hcs hm hd a e;subst hcs;have o:r=none:=S.go.dying.2;subst o;refine ⟨{frame:={fr with defers:=[]},callers:=[dI P],status:=.running,dying:=none},?_,rfl,?_,2,xz (fr:={fr with defers:=[]}) a d hm rfl⟩
 .simp only [mayWake,hm]
 .simp only [stepG,hm,unwind,hd];unfold callDeferred;simp only [rp at_ t k hrow];simp [e,GStep.after]
end
end
section
variable {P:Wv} [Two P]
theorem EG {U:Outer}{G:FuncId->Bool}{Post:Wx->Wj->Prop}{f page:FuncId}{R:(Nat->Question->Nat)->Nat->Ending->Wj->Prop}(q:G page=false)(o:P.inits.idxOf? f=none)
  (L:∀τ d e u,R τ d e u->e=.returned (.bool true)\/∃t a c r x l,e=.panicked ({v:=.iface t (.func (.func page) a c),recovered:=r,goexit:=x} :: l))
  (p:∀h V ρ g W ρ' W',Ends P.alt f R h V->h.frame.mode=.returning->Rel P U G [] ρ h g V W->ρ.le ρ'->bI ρ' V W'->Kp U W'->Post (.bool true) W'):Leaf P U G (Ends P.alt f R) Post:=by
 intro h g V W ρ J b d;have hT0:=J;obtain ⟨τ,d0,j,d',e,fr,hr,rfl,F,hlv,-⟩:=J;have hcs:g.callers=[]:=RFs.nil_of b.go.callers;obtain ⟨gf,gc,gst,N,go⟩:=g;simp only at hcs;subst hcs;obtain rfl:N=none:=b.go.dying.2;have hfr:=b.go.frame;simp only at hfr;rcases L _ _ _ _ hr with rfl|⟨t,a,c,r,x,l,rfl⟩
 .obtain ⟨hm,hd,hk,fn,hfa,hrun⟩:=hlv;have hm':gf.mode=.returning:=by
   have:=hfr.mode;rw [hm] at this;generalize gf.mode=y at this;cases this;rfl
  have D:gf.defers=[]:=by
   have:=hfr.defers;rw [hd] at this;generalize gf.defers=y at this;cases this;rfl
  obtain ⟨fn2,hf2⟩:∃fn2,P.funcs[fr.fn]?=some fn2:=by
   cases hx:P.funcs[fr.fn]? with
   |some y=>exact ⟨y,rfl⟩
   |none=>rw [(ko b.gid fr.fn).2 hx] at hfa;cases hfa
  rw [nj b.gid hfa hf2 fr.tmps] at hrun;have hS:bI ρ (V.on j d') (W.at d):=⟨b.sim.obj,b.sim.fix,b.sim.chan,b.sim.os,b.sim.pin⟩;have s:RS P QV ρ (results fn2 fr.tmps) (results fn2 gf.tmps):=ot fn2 hfr.tmps;have n:((results fn2 fr.tmps).runT P.alt (V.on j d') #[]).1=.ok (.bool true) (V.on j d'):=by rw [Sem.runT_fst];exact hrun
  obtain ⟨m1,o1⟩:=pz s (V.on j d') ((W.at d).on j d') #[] #[] ⟨b.sim.obj,b.sim.fix,b.sim.chan,b.sim.os,b.sim.pin⟩ (fun i _=>rfl);have hP1:(results fn2 fr.tmps).runT P (V.on j d') #[]=(results fn2 fr.tmps).runT P.alt (V.on j d') #[]:=by
   rcases o1 with ⟨-,x,u,k,-⟩|⟨k,-⟩
   .rw [n] at k;cases k
   .exact k.symm
  have B:((results fn2 fr.tmps).runT P (V.on W.tape d) #[]).1=.ok (.bool true) (V.on W.tape d):=by
   have m3:=m1.2.2;have hw:((results fn2 fr.tmps).runT P (V.on j d') #[]).1=.ok (.bool true) (V.on j d'):=by rw [hP1];exact n
   have:=m3 W.tape d (fun i I=>by rw [hw] at I;simp only [Result.w] at I;omega);rw [zD] at this;rw [this];show Result.on W.tape d d' ((results fn2 fr.tmps).runT P (V.on j d') #[]).1=_;rw [hw];show Result.ok _ ((V.on j d').on W.tape (d+(d'-d')))=_;rw [Nat.sub_self,Nat.add_zero,zD]
  obtain ⟨-,O⟩:=pz s (V.on W.tape d) (W.at d) #[] #[] ⟨b.sim.obj,b.sim.fix,b.sim.chan,b.sim.os,b.sim.pin⟩ (fun i _=>rfl);rcases O with ⟨⟨x,u,k,-⟩,-⟩|⟨-,ρ',M,S',m,K,-,-,E,-,-⟩
  .rw [B] at k;cases k
  rw [B] at m S';generalize C:(results fn2 gf.tmps).runT P (W.at d) #[]=cr at m S' K E;obtain ⟨r2,es⟩:=cr;simp only at m S' K E;cases m with
  | @ok _ v' _ W' hv=>
   have hv:RV ρ' (.bool true) v':=hv;cases hv;obtain ⟨E0,H,hE2⟩:=E;refine ⟨.bool true,seen P gf.fn es,ρ',V.on W.tape d,W',?_,p _ V ρ _ W ρ' W' hT0 hm b M ⟨S'.obj,S'.fix,S'.chan,S'.os,S'.pin⟩ (b.out.1.keep b.out.2 ⟨K.os,K.output,K.tape,K.size,K.block⟩),S',K.size,fun e he=>hE2 e (by have:=dP he;rw [H] at this;simpa using this)⟩;have z:P.funcs[gf.fn]?=some fn2:=by rw [<-hfr.fn];exact hf2
   have hin:P.inits.idxOf? gf.fn=none:=by rw [<-hfr.fn,F];exact o
   have A:doReturn P true gf [] none (.bool true) W'=.ended (.done (.bool true)) W':=by
    unfold doReturn;have:=hfr.early.2.2;cases hkd:gf.kind with
    |report=>exact absurd hkd this
    |_=>simp [hin]
   simp only [stepG,hm',unwind,D,z,C,A];simp [GStep.after]
 .obtain ⟨hm,-⟩:=hlv;exfalso;have:=hfr.mode;rw [hm] at this;generalize gf.mode=y at this;cases this with
  |panicking hp=>
   cases hp with
   |cons _ _ hv _=>
    cases hv with
    |iface _ hv=>
     cases hv with
     |func hf _ _ _ _=>
      cases hf with
      |func _ hF=>rw [b.same,q] at hF;cases hF
end
section
open Go.Conc (crowd Past EvL Deaf QuitsD woken awake crowd_pick runT_crowd_go)
open Go.ConcN (sumTo upd sumTo_upd upd_ne upd_same)
variable {P:Wv} {Post:Wx->Wj->Prop}
theorem bJ (W:Wj)(a b:Nat):(W.at a).at b=W.at b:=rfl
theorem zJ {g g' a:Wk}{W:Wj}(hr:g.status=.running)(h:∀d,stepG P true g (W.at d)=.spawn g' a (W.at d) #[]){ρr ρs:Ren}
  (c:∀ (gs:Array Wk) (sl:Option (Nat×Nat)) (t:Trace) (q:Nat->Nat) (d k:Nat),k≠0->gs[0]?=some g'->gs[k]?=some a->Lv P (fun i=>i=k) t gs q->PhT 0 k ρr ρs W.heap.size t->Fin P Post gs (W.at d) sl t):
  ∀ (gs:Array Wk) (sl:Option (Nat×Nat)) (t:Trace) (q:Nat->Nat) (d:Nat),gs[0]?=some g->Lv P (fun _=>False) t gs q->Past gJ W.heap.size t->Fin P Post gs (W.at d) sl t:=by
 intro gs sl t q d h0 e hP;obtain ⟨M,hM⟩:∃M,sumTo gs.size q<=M:=⟨_,lR _⟩;induction M using Nat.strongRecOn generalizing gs sl t q d with
 |_ M o=>
  obtain ⟨i,x,d',sl',m,hx,hst⟩:=crowd_pick (P:=P) (w:=W.at d) (sl:=sl) (g9 e h0 hr) ⟨0,g,h0,hr⟩;rw [bJ] at hst;have hlt:0<gs.size:=(eS h0).1;rcases Nat.eq_zero_or_pos i with rfl|hpos
  .obtain rfl:x=g:=by rw [h0] at m;exact (oJ m).symm
   have hrt:=Conc.runT_crowd_spawn (P:=P) (sl:=sl') (i:=0) m (show stepG P (0==0) x (W.at d')=_ from h d');have l:((MemOp.ofEvents 0 x.frame.fn x.frame.place #[]).push {g:=0,fn:=x.frame.fn,pos:=x.frame.place,act:=.go gs.size} |>.push {g:=gs.size,fn:=a.frame.fn,pos:=x.frame.place,act:=.start})=#[{g:=0,fn:=x.frame.fn,pos:=x.frame.place,act:=.go gs.size},{g:=gs.size,fn:=a.frame.fn,pos:=x.frame.place,act:=.start}]:=rfl;rw [l] at hrt;have b:∀n∈(#[{g:=0,fn:=x.frame.fn,pos:=x.frame.place,act:=.go gs.size},{g:=gs.size,fn:=a.frame.fn,pos:=x.frame.place,act:=.start}]:Trace),n.act≠.mark .disable/\n.act≠.mark .enable:=fun n f=>by
    simp at f;rcases f with rfl|rfl<;>exact ⟨by simp,by simp⟩
   refine Fin.next (hst.trans hrt) (c _ sl' _ q d' gs.size (by omega) (by rw [gP,if_neg (by simp;omega)];simp [hlt]) (by rw [gP,if_pos (by simp)]) ⟨fun j y p r hy=>?_,fun j p=>?_⟩ (PhT.start hP (by omega) (e.above gs.size (lR _)) ⟨rfl,rfl⟩ ⟨rfl,rfl⟩))
   .rw [bF t j _ b];refine e.old j y p (fun k=>k) ?_;simp only [gP,Array.size_setIfInBounds] at hy;rw [if_neg r,sN (by omega)] at hy;exact hy
   .rw [bF t j _ b];exact e.above j (by simp at p;omega)
  .obtain ⟨s,q',ops,e1,e2,e3,e4,e5,e6,-⟩:=slip (w:=W.at d) (d:=d') e hP (jE W.heap.size) m hx hpos (fun k=>k) (firm0 h0 hr _) (by rw [bJ];exact hst);rw [bJ] at e1;exact Fin.next e1 (o _ (by omega) s sl' (t++ops) q' d' ((e3 0 (.inl rfl)).trans h0) e4 e5 (lR _))
end
inductive Good:Wx->Prop
 |bool (b:Bool):Good (.bool b)
 |int (k:IntKind) (n:Int):Good (.int k n)
 |string (s:ByteArray):Good (.string s)
 |pointer (a:Option Wu):Good (.pointer a)
 |slice (a:Option Wu) (n c:Nat):Good (.slice a n c)
 |map (r:Option Nat):Good (.map r)
 |chan (r:Option Nat):Good (.chan r)
 |nilFunc:Good .nilFunc
 |nilIface:Good .nilIface
 |agg {c:Array Wx} (h:∀ (i:Nat) v,c[i]?=some v->Good v):Good (.agg c)
 |tuple {c:Array Wx} (h:∀ (i:Nat) v,c[i]?=some v->Good v):Good (.tuple c)
section
variable {ρ σ:Ren}
theorem nv {Q:Wx->Wx->Wx->Prop}{c c':Array Wx}(hc:c.size=c'.size)(h:∀ (i:Nat) v v',c[i]?=some v->c'[i]?=some v'->∃v0,Q v v' v0):
  ∃c0:Array Wx,c0.size=c'.size/\∀ (i:Nat) v v',c[i]?=some v->c'[i]?=some v'->∃v0,c0[i]?=some v0/\Q v v' v0:=by
 have hx:∀i:_root_.Fin c'.size,∃v0,Q (c[i.1]'(by omega)) c'[i.1] v0:=fun i=>h i.1 _ _ (eG _) (eG _)
 refine ⟨Array.ofFn fun i=>(hx i).choose,by simp,fun i v v' h1 h2=>?_⟩;obtain ⟨hi,e1⟩:=eS h1;obtain ⟨a,e2⟩:=eS h2;refine ⟨(hx ⟨i,a⟩).choose,?_,?_⟩
 .rw [Array.getElem?_ofFn];simp [a]
 .have:=(hx ⟨i,a⟩).choose_spec;rw [<-e1,<-e2];exact this
theorem vC {c c' c0:Array Wx}(hc:c.size=c'.size)(h0:c0.size=c'.size)(h:∀ (i:Nat) v v',c[i]?=some v->c'[i]?=some v'->∃v0,c0[i]?=some v0/\RV σ v0 v'/\(Good v->v0=v))(hg:∀ (i:Nat) v,c[i]?=some v->Good v):c0=c:=by
 refine Array.ext (by omega) (fun i h1 h2=>?_);have h3:i<c'.size:=by omega
 obtain ⟨v0,e,-,k⟩:=h i _ _ (eG h2) (eG h3);have:=k (hg i _ (eG h2));rw [eG h1] at e;cases e;exact this
theorem uh {c c' c0:Array Wx}(hc:c.size=c'.size)(h0:c0.size=c'.size)(h:∀ (i:Nat) v v',c[i]?=some v->c'[i]?=some v'->∃v0,c0[i]?=some v0/\RV σ v0 v'/\(Good v->v0=v)):∀ (i:Nat) v v',c0[i]?=some v->c'[i]?=some v'->RV σ v v':=fun i v v' h1 h2=>by
 have hi:i<c'.size:=(eS h2).1;obtain ⟨v0,e,k,-⟩:=h i _ v' (eG (by omega)) h2;rw [h1] at e;cases e;exact k
theorem EH (hrel:∀a b,ρ a b->σ a b)(ho:σ.bad=ρ.bad){v v':Wx}(h:RV ρ v v'):∃v0,RV σ v0 v'/\(Good v->v0=v):=by
 have d:∀ {a a':Option Wu},RAo ρ a a'->RAo σ a a':=fun h=>by
  cases h with
  |none=>exact .none
  |some h=>exact .some ⟨hrel _ _ h.1,h.2⟩
 have e:∀ {a a':Option Nat},RNo ρ a a'->RNo σ a a':=fun h=>by
  cases h with
  |none=>exact .none
  |some h=>exact .some (hrel _ _ h)
 induction h with
 |bool b=>exact ⟨_,.bool b,fun _=>rfl⟩
 |int k n=>exact ⟨_,.int k n,fun _=>rfl⟩
 |string s=>exact ⟨_,.string s,fun _=>rfl⟩
 |pointer h=>exact ⟨_,.pointer (d h),fun _=>rfl⟩
 |slice n c h=>exact ⟨_,.slice n c (d h),fun _=>rfl⟩
 |map h=>exact ⟨_,.map (e h),fun _=>rfl⟩
 |chan h=>exact ⟨_,.chan (e h),fun _=>rfl⟩
 |func hf ha hc _ _ _ _=>exact ⟨_,.dead _ (by cases hf<;>rfl),fun k=>by cases k⟩
 |nilFunc=>exact ⟨_,.nilFunc,fun _=>rfl⟩
 |iface t h _=>exact ⟨_,.dead _ rfl,fun k=>by cases k⟩
 |nilIface=>exact ⟨_,.nilIface,fun _=>rfl⟩
 |agg hc _ ih=>
  obtain ⟨c0,h0,h1⟩:=nv hc ih;exact ⟨.agg c0,.agg h0 (uh hc h0 h1),fun k=>by cases k with|agg k=>rw [vC hc h0 h1 k]⟩
 |tuple hc _ ih=>
  obtain ⟨c0,h0,h1⟩:=nv hc ih;exact ⟨.tuple c0,.tuple h0 (uh hc h0 h1),fun k=>by cases k with|tuple k=>rw [vC hc h0 h1 k]⟩
 |dead v' h=>exact ⟨_,.dead v' h,fun _=>rfl⟩
 |odd n s a c hn=>exact ⟨_,.odd n s a c (hn.trans ho.symm),fun k=>by cases k⟩
theorem vD (hrel:∀a b,ρ a b->σ a b)(ho:σ.bad=ρ.bad){c c':Array Wx}(h:RVs ρ c c'):∃c0,RVs σ c0 c'/\c0.size=c.size/\∀ (i:Nat) v,c[i]?=some v->Good v->c0[i]?=some v:=by
 obtain ⟨c0,h0,h1⟩:=nv h.size (fun i v v' h1 h2=>EH (σ:=σ) hrel ho (h.at_ i v v' h1 h2));refine ⟨c0,⟨h0,uh h.size h0 h1⟩,by rw [h0,h.size],fun i v hv hg=>?_⟩;have d:i<c.size:=(eS hv).1;obtain ⟨v0,e,-,k⟩:=h1 i v _ hv (eG (by rw [<-h.size];exact d));rw [e,k hg]
theorem EI (hrel:∀a b,ρ a b->σ a b)(ho:σ.bad=ρ.bad)(hF:σ.F lm=false){o o':Obj}(h:RO ρ o o'):∃o0,RO σ o0 o'/\Fixed o0/\o0.isChan=false/\∀c e z,o=.cells c e z->∃c0 z0,o0=.cells c0 e z0/\∀ (i:Nat) v,c[i]?=some v->Good v->c0[i]?=some v:=by
 cases h with
 | @cells c c' e z d hz h=>
  obtain ⟨c0,k1,k2,k3⟩:=vD hrel ho h;refine ⟨.cells c0 e (0,max (max c.size d.2) 1),.cells e (.inr ⟨hF,rfl,by simp;omega,by simp only;omega,by simp only;omega⟩) k1,⟨rfl,by simp only;omega⟩,rfl,fun c1 e1 z1 hc=>?_⟩;cases hc;exact ⟨c0,_,rfl,k3⟩
 |number b h=>exact ⟨_,.number b ⟨hrel _ _ h.1,h.2⟩,trivial,rfl,fun _ _ _ h=>by cases h⟩
 |dead o' h=>exact ⟨_,.dead o' h,trivial,rfl,fun _ _ _ h=>by cases h⟩
 |_=>exact ⟨_,.dead _ rfl,trivial,rfl,fun _ _ _ h=>by cases h⟩
end
def vE (o:Obj):Prop:=(∃c e z,o=.cells c e z)\/Fixed o
def Ren.low (ρ:Ren)(F:FuncId->Bool)(live:Nat->Prop)(c:Nat)(wide:Bool)(ht:F fK=true->wide=false):Ren where
 rel:=ρ.rel
 fn:=ρ.fn
 inj:=ρ.inj
 prog:=ρ.prog
 F:=F
 old:=fun a=>(∃b,ρ a b)/\¬live a/\a≠c
 ch:=fun a=>a=c
 loose:=true
 wide:=wide
 tight:=ht
 pin:=ρ.pin
 bad:=ρ.bad
 noM:=ρ.noM
theorem lower {ρ:Ren}{V W:Wj}(S:bI ρ V W){F:FuncId->Bool}{live:Nat->Prop}{c c':Nat}{wide:Bool}(ht:F fK=true->wide=false)(hF:F lm=false)(hc:ρ c c'){n D s s' q q':Nat}{b b':Array Wx}{cl t tm:Bool}(B:W.heap[c']?=some (.chan D b' t s' q' tm))(hcl:wide=true\/cl=t)
  (j:∀a,live a->a≠c/\∃x e z,V.heap[a]?=some (.cells x e z)/\(∀ (i:Nat) v,x[i]?=some v->Good v)/\∀y,ρ a y->∃x',W.heap[y]?=some (.cells x' e z)):
  ∃V':Wj,bI (ρ.low F live c wide ht) V' W/\V'.heap.size=V.heap.size/\V'.tape=V.tape/\V'.drawn=V.drawn/\V'.os=V.os/\V'.heap[c]?=some (.chan n b cl s q tm)/\(∀ (a:Nat) o,V'.heap[a]?=some o->o.isChan=true->a=c) /\
   (∀a y i v,ρ a y->V.cell? ⟨a,i,none⟩=some v->Good v->V'.cell? ⟨a,i,none⟩=some v)/\(∀a,live a->V'.heap[a]?=V.heap[a]?)/\∀a y,ρ a y->a≠c->∃o,V'.heap[a]?=some o/\vE o:=by
 classical
 generalize hσ:ρ.low F live c wide ht=σ;have hrel:∀a b,ρ a b->σ a b:=fun a b h=>by subst hσ;exact h
 have r:∀a b,σ a b->ρ a b:=fun a b h=>by subst hσ;exact h
 have hF':σ.F lm=false:=by subst hσ;exact hF
 have ho:σ.bad=ρ.bad:=by subst hσ;rfl
 have hlt:=(S.lt hc).1;have key:∀a:Nat,∃o0:Obj,(∀y,ρ a y->a≠c->∃o',W.heap[y]?=some o'/\RO σ o0 o')/\(a≠c->¬live a->Fixed o0)/\(a≠c->o0.isChan=false)/\(∀y x e z,ρ a y->a≠c->V.heap[a]?=some (.cells x e z)->∃x0 z0,o0=.cells x0 e z0/\∀ (i:Nat) v,x[i]?=some v->Good v->x0[i]?=some v)/\(live a->V.heap[a]?=some o0)/\(a=c->o0=.chan n b cl s q tm):=fun a=>by
  by_cases d:a=c
  .exact ⟨.chan n b cl s q tm,fun _ _ k=>absurd d k,fun k=>absurd d k,fun k=>absurd d k,fun _ _ _ _ _ k=>absurd d k,fun k=>absurd d (j a k).1,fun _=>rfl⟩
  by_cases hl:live a
  .obtain ⟨-,x,e,z,h1,h2,h3⟩:=j a hl;refine ⟨.cells x e z,fun y hy _=>?_,fun _ k=>absurd hl k,fun _=>rfl,fun y x1 e1 z1 hy _ hx=>?_,fun _=>h1,fun k=>absurd k d⟩
   .obtain ⟨o,o',k1,k2,k3⟩:=S.obj a y hy;obtain ⟨x',k4⟩:=h3 y hy;rw [h1] at k1;cases k1;rw [k4] at k2;cases k2;cases k3 with
    |cells e hz h=>
     obtain ⟨c0,m1,m2,m3⟩:=vD (σ:=σ) hrel ho h;have:c0=x:=by
      refine Array.ext m2 (fun i C i2=>?_);have:=m3 i _ (eG i2) (h2 i _ (eG i2));rw [eG C] at this;exact oJ this
     subst this;exact ⟨_,k4,.cells e (.inl rfl) m1⟩
   .rw [h1] at hx;cases hx;exact ⟨_,_,rfl,fun i v h _=>h⟩
  by_cases hy:∃y,ρ a y
  .obtain ⟨y,hy⟩:=hy;obtain ⟨o,o',k1,k2,k3⟩:=S.obj a y hy;obtain ⟨o0,m1,m2,m3,G⟩:=EI (σ:=σ) hrel ho hF' k3;refine ⟨o0,fun E A _=>?_,fun _ _=>m2,fun _=>m3,fun E x e z A _ hx=>?_,fun k=>absurd k hl,fun k=>absurd k d⟩
   .obtain rfl:=ρ.fn _ _ _ hy A;exact ⟨o',k2,m1⟩
   .rw [hx] at k1;cases k1;exact G x e z rfl
  .exact ⟨.coro none,fun y k=>absurd ⟨y,k⟩ hy,fun _ _=>trivial,fun _=>rfl,fun y _ _ _ k=>absurd ⟨y,k⟩ hy,fun k=>absurd k hl,fun k=>absurd k d⟩
 obtain ⟨f,key⟩:=Classical.skolem.1 key;generalize l:({V with heap:=Array.ofFn (n:=V.heap.size) fun a=>f a.1}:Wj)=V';have hsz:V'.heap.size=V.heap.size:=by subst l;simp
 have row:∀a,a<V.heap.size->V'.heap[a]?=some (f a):=fun a ha=>by
  subst l;simp [ha]
 have m:V'.heap[c]?=some (.chan n b cl s q tm):=by rw [row c hlt,(key c).2.2.2.2.2 rfl]
 have p:∀ (a:Nat) o,V'.heap[a]?=some o->o.isChan=true->a=c:=fun a o ho hch=>by
  refine Classical.byContradiction fun hne=>?_
  have ha:a<V.heap.size:=by rw [<-hsz];exact (eS ho).1
  rw [row a ha] at ho;cases ho;rw [(key a).2.2.1 hne] at hch;cases hch
 refine ⟨V',⟨fun a y hay=>?_,fun a u=>?_,fun a hch=>?_,?_,fun hb=>by rw [hF'] at hb;cases hb⟩,hsz,by subst l;rfl,by subst l;rfl,by subst l;rfl,m,p,fun a y i v hay hv hg=>?_,fun a hl=>?_,fun a y hay hne=>?_⟩
 .have hay:=r _ _ hay;have ha:=(S.lt hay).1;by_cases d:a=c
  .subst d;obtain rfl:=ρ.fn _ _ _ hay hc;subst hσ;exact ⟨_,_,m,B,.chan _ _ _ _ _ _ _ _ _ (.inl rfl) hcl⟩
  .obtain ⟨o',k1,k2⟩:=(key a).1 y hay d;exact ⟨_,o',row a ha,k1,k2⟩
 .subst hσ;obtain ⟨⟨y,hy⟩,h1,h2⟩:=u;exact ⟨_,row a (S.lt hy).1,(key a).2.1 h2 h1⟩
 .subst hσ;have hch:a=c:=hch;subst hch;exact ⟨_,m,rfl⟩
 .subst l;exact S.os
 .have ha:=(S.lt hay).1;unfold World.cell? at hv ⊢;rw [row a ha];cases hr:V.heap[a]? with
  |none=>rw [hr] at hv;cases hv
  |some o=>
   rw [hr] at hv;cases o with
   |cells x e z=>
    by_cases d:a=c
    .subst d;obtain ⟨o,o',k1,k2,k3⟩:=S.obj a c' hc;rw [B] at k2;cases k2;rw [hr] at k1;cases k1;cases k3
    .obtain ⟨x0,z0,k1,k2⟩:=(key a).2.2.2.1 y x e z hay d hr;rw [k1];simp only at hv ⊢;exact k2 i v hv hg
   |_=>cases hv
 .have ha:a<V.heap.size:=by
   obtain ⟨-,x,e,z,h1,-⟩:=j a hl;exact (eS h1).1
  exact (row a ha).trans ((key a).2.2.2.2.1 hl).symm
 .refine ⟨_,row a (S.lt hay).1,?_⟩;by_cases hl:live a
  .obtain ⟨-,x,e,z,h1,-⟩:=j a hl;have:=(key a).2.2.2.2.1 hl;rw [h1] at this;exact .inl ⟨x,e,z,(oJ this).symm⟩
  .exact .inr ((key a).2.1 hne hl)
section
variable {P:Wv} {N T:Wk->Wj->Prop} {g g':Wk} {w w':Wj}
theorem LC.status {c:CommCase}{s:CommShape}(h:LC P g c s w g' w'):g'.status=.running:=by
 cases h with
 |dead _ _ _ hg=>exact hg
 |_=>rfl
theorem LS.status (h:LS P g w g' w'):g'.status=.running:=by
 cases h with
 |go _ hr _=>exact hr
 |comm _ hc=>exact hc.status
theorem LS.next (hr:g.status=.running)(h:LS P g w g' w'){m:Machine}(hs:step P (solo g w)=.next m):m=solo g' w'\/∃b,b.status=.blocked/\m.gs=#[b]/\∃u,m=solo b u:=by
 cases h with
 |go h _ _=>
  rw [ku hr h] at hs;exact .inl (by cases hs;rfl)
 | @comm g1 c s w1 es _ _ h hc=>
  rw [rh hr h] at hs;by_cases hg1:g1.status=.running
  .rcases ri hg1 hs with ⟨b,q,hb,rfl⟩|rfl
   .obtain ⟨rfl,rfl⟩:=(LS.comm h hb).fn (LS.comm h hc);exact .inl rfl
   .exact .inr ⟨_,rfl,rfl,_,rfl⟩
  .have a:(communicate P {timers:=#[],alone:=none,slice:=none} #[away] 0 g1 #[c] true s w1).1=.next m:=hs
   obtain ⟨ch,sd,z⟩:=c;cases hc with
   |dead _ _ _ hg=>exact absurd hg hg1
   |send h1 h2 h3 h4=>
    simp only at h1 h2;subst h1;subst h2;simp [communicate,ways,h3,cq,h4,choose,Sem.run,Question.forced,bind,Sem.bind,pure] at a;exact .inl a.symm
   |recv h1 h2 h3 h4=>
    simp only at h1 h2;subst h1;subst h2;simp [communicate,ways,h3,cq,h4,choose,Sem.run,Question.forced,bind,Sem.bind,pure] at a;refine .inl ?_;rw [<-a];simp [solo,h4]
   |shut h1 h2 h3=>
    simp only at h1 h2;subst h1;subst h2;simp [communicate,ways,h3,cq,choose,Sem.run,Question.forced,bind,Sem.bind,pure] at a;exact .inl a.symm
theorem zK (i:∀g w,T g w->∀n g2 w2,runN P n (solo g w)=.next (solo g2 w2)->g2.callers.length<=1):∀ (n:Nat)(g:Wk)(w:Wj),Dem P N T g w->g.status=.running->∀g2 w2,runN P n (solo g w)=.next (solo g2 w2)->g2.status=.running->1<g2.callers.length->LSs P T g w g2 w2/\Dem P N T g2 w2:=by
 intro n;induction n with
 |zero=>
  intro g w hD _ g2 w2 h _ _;simp only [runN,Stepped.next.injEq] at h;have e1:#[g]=#[g2]:=congrArg Machine.gs h;have e2:w=w2:=congrArg Machine.world h;simp at e1;subst e1;subst e2;exact ⟨.refl _ _,hD⟩
 |succ n ih=>
  intro g w hD hr g2 w2 h hr2 hl;cases hD with
  |stop k=>
   have:=i g w k _ _ _ h;omega
  |step hN f d hn=>
   obtain ⟨g',w',a⟩:=d w.tape w.drawn;have c:LS P g w g' w':=a;simp only [runN] at h;cases hs:step P (solo g w) with
   |ended o u=>rw [hs] at h;cases h
   |next m=>
    rw [hs] at h;rcases c.next hr hs with rfl|⟨b,hb,-,u,rfl⟩
    .obtain ⟨k1,k2⟩:=ih g' w' (hn _ _ _ _ a) a.status g2 w2 h hr2 hl;exact ⟨.step f w.tape w.drawn a k1,k2⟩
    .cases n with
     |zero=>
      simp only [runN,Stepped.next.injEq] at h;have e1:#[b]=#[g2]:=congrArg Machine.gs h;simp at e1;subst e1;rw [hb] at hr2;cases hr2
     |succ n=>
      obtain ⟨o,z,e⟩:=g8 (P:=P) (w:=u) (g:=b) hb;simp only [runN,e] at h;cases h
theorem Dem.on (b:∀g w τ d,N g w->N g (w.on τ d))(a:∀g w τ d,T g (w.on τ d)↔T g w)(h:Dem P N T g w)(τ:Nat->Question->Nat)(d:Nat):Dem P N T g (w.on τ d):=by
 cases h with
 |stop k=>exact .stop ((a _ _ _ _).2 k)
 |step h1 h2 h3 h4=>exact .step (b _ _ _ _ h1) (fun k=>h2 ((a _ _ _ _).1 k)) h3 h4
theorem LSs.on {τ:Nat->Question->Nat}{d:Nat}(a:∀g w τ d,T g (w.on τ d)↔T g w){g2:Wk}{w2:Wj}(h:LSs P T g (w.on τ d) g2 w2):(g2=g/\w2=w.on τ d)\/LSs P T g w g2 w2:=by
 cases h with
 |refl=>exact .inl ⟨rfl,rfl⟩
 |step hnT τ' d' h hs=>exact .inr (.step (fun k=>hnT ((a _ _ _ _).2 k)) τ' d' h hs)
theorem ox {f:FuncId}{R:(Nat->Question->Nat)->Nat->Ending->Wj->Prop}(h:Ends P f R g w):∀n g2 w2,runN P n (solo g w)=.next (solo g2 w2)->g2.callers.length<=1:=by
 obtain ⟨τ,d,τ',d',e,fr,-,rfl,-,hlv,hne⟩:=h;intro n g2 w2 hrun;have i:∀ {a b:Wk} {u v:Wj},solo a u=solo b v->a=b:=fun h=>by
  have e1:=congrArg Machine.gs h;simpa [solo] using e1
 cases n with
 |zero=>
  simp only [runN,Stepped.next.injEq] at hrun;rw [<-i hrun];exact lR _
 |succ n=>
  have hst:(∃o u es,stepG P true {frame:=fr,callers:=[trap P],status:=.running,dying:=none} w=.ended o u es)\/∃f1 u es,stepG P true {frame:=fr,callers:=[trap P],status:=.running,dying:=none} w=.go {frame:=f1,callers:=[],status:=.running,dying:=none} u es/\(f1=trap P\/∃c,f1=(trap P).raise c):=by
   cases e with
   |outgrown=>exact absurd rfl hne
   |panicked c=>
    obtain ⟨hm,hd,fn,hf⟩:=hlv;have hc:fr.catches P=false:=by unfold Frame.catches;rw [hf]
    refine .inr ⟨(trap P).raise c,w,#[],?_,.inr ⟨c,rfl⟩⟩;simp only [stepG,hm,unwind,hd,hc];rfl
   |returned v=>
    obtain ⟨hm,hd,hk,fn,hf,-⟩:=hlv;have e0:stepG P true {frame:=fr,callers:=[trap P],status:=.running,dying:=none} w=unwind P true fr [trap P] none w:=by simp only [stepG,hm]
    rw [e0];unfold unwind;simp only [hd,hm,hf];cases hr:(results fn fr.tmps).runT P w #[] with
    |mk r es=>
     cases r with
     |ok v u=>
      obtain ⟨f1,e1,h1⟩:=i8 (P:=P) fr (by rw [hk];rfl) v u;simp only [e1];exact .inr ⟨f1,_,_,rfl,h1⟩
     |halt x u=>cases x<;>exact .inl ⟨_,_,_,rfl⟩
  simp only [runN] at hrun;rcases hst with ⟨o,u,es,he⟩|⟨f1,u,es,he,hf1⟩
  .rw [eO (g:={frame:=fr,callers:=[trap P],status:=.running,dying:=none}) rfl he] at hrun;cases hrun
  .rw [ku (g:={frame:=fr,callers:=[trap P],status:=.running,dying:=none}) rfl he] at hrun;cases n with
   |zero=>
    simp only [runN,Stepped.next.injEq] at hrun;rw [<-i hrun];exact Nat.zero_le _
   |succ n=>
    obtain ⟨o,z,es2,e2⟩:=rj (P:=P) hf1 u;simp only [runN,eO (g:={frame:=f1,callers:=[],status:=.running,dying:=none}) rfl e2] at hrun;cases hrun
end
def Marks (ρ:Ren)(l:List Deferred):Prop:=∀d∈l,∃r b,d.target=.collected r/\ρ r b
theorem RDs.marks {ρ:Ren}(hS:(ρ.F fK||ρ.F lp)=false){l l':List Deferred}(h:RDs ρ l l'):Marks ρ l:=by
 induction h with
 |nil=>exact fun d hd=>by cases hd
 | @cons d d' l l' h _ hk ih=>
  intro x hx;rcases List.mem_cons.1 hx with rfl|hx
  .rcases hk with ⟨r,hr⟩|hk
   .cases h with
    |odd=>cases hr
    |mk this _=>
     rw [hr] at this;generalize d'.target=y at this;cases this with
     |collected k=>exact ⟨r,_,hr,k⟩
   .rw [hS] at hk;cases hk
  .exact ih x hx
inductive Fl (P:Wv)(ρ:Ren):List Wy->Prop
 |base:Fl P ρ [trap P]
 |cons {f:Wy} {l:List Wy} (hc:f.catches P=false) (hm:Marks ρ f.defers) (hl:Fl P ρ l):Fl P ρ (f::l)
theorem RFs.fl {P Q:Wv}{ρ:Ren}(hS:(ρ.F fK||ρ.F lp)=false){l l':List Wy}(h:RFs P ρ ([trap Q],[]) l l'):Fl Q ρ l:=by
 generalize a:(([trap Q],[]):List Wy×List Wy)=X at h;induction h with
 |base=>rw [<-a];exact .base
 |cons h _ _ ih=>exact .cons (eN h Q).1 (h.defers.marks hS) ih
def Ce (V w:Wj):Prop:=w.heap.size=V.heap.size/\∀a,w.cell? a=V.cell? a
theorem EJ {P:Wv}{f:FuncId}{R:(Nat->Question->Nat)->Nat->Ending->Wj->Prop}{ρ:Ren}{en:PanicEntry}{V:Wj}{g:Wk}{w:Wj}(hD:Dem P (fun g _=>NB [trap P] g) (Ends P f R) g w):
  ∀l,g.frame.mode=.panicking (en::l)->g.dying=none->g.frame.catches P=false->Marks ρ g.frame.defers->Fl P ρ g.callers->(∀r b,ρ r b->∀l,w.heap[r]?=some (.deferred (some l))->Marks ρ l)->Ce V w->∃τ d l u,R τ d (.panicked (en::l)) u/\Ce V u:=by
 induction hD with
 | @stop g w G=>
  intro l hm z _ _ _ _ m;obtain ⟨τ,d,τ',d',e,fr,H,rfl,-,hlv,hne⟩:=G;simp only at hm;cases e with
  |outgrown=>exact absurd rfl hne
  |returned v=>
   obtain ⟨h,-⟩:=hlv;rw [hm] at h;cases h
  |panicked c=>
   obtain ⟨h,-⟩:=hlv;rw [hm] at h;cases h;exact ⟨τ,d,l,_,H,m⟩
 | @step g w I G F hn ih=>
  intro l hm z s hmk t hrow m;obtain ⟨g',w',y⟩:=F w.tape w.drawn;have p:LS P g w g' w':=y;have i:stepG P true g w=unwind P true g.frame g.callers none w:=by
   obtain ⟨fr,cs,st,dy,off⟩:=g;simp only at hm z;subst z;simp only [stepG,hm]
  cases n:g.frame.defers with
  |cons x J=>
   obtain ⟨r,b,hx,D⟩:=hmk x (by rw [n];exact List.mem_cons_self ..);obtain ⟨tg,ar⟩:=x;simp only at hx;subst hx;have hrun:∀l0,w.heap[r]?=some (.deferred (some l0))->(Instr.takeDeferred r).runT P w #[]=(.ok l0 {w with heap:=w.heap.setIfInBounds r (.deferred none)},#[⟨.obj r,false,false⟩,⟨.obj r,true,false⟩]):=fun l0 h0=>by
    unfold Instr.takeDeferred;show Sem.runT P (Sem.getObj r _) w #[]=_;simp only [Sem.runT,h0];show Sem.runT P (Sem.setObj r (.deferred none) _) w _=_;simp only [Sem.runT,h0];rfl
   have B:(∀l0,w.heap[r]?≠some (.deferred (some l0)))->∃h u es,(Instr.takeDeferred r).runT P w #[]=(.halt h u,es):=fun hno=>by
    unfold Instr.takeDeferred;show ∃h u es,Sem.runT P (Sem.getObj r _) w #[]=(.halt h u,es);cases h0:w.heap[r]? with
    |none=>simp only [Sem.runT,h0];exact ⟨_,_,_,rfl⟩
    |some o=>
     cases o with
     |deferred q=>
      cases q with
      |none=>simp only [Sem.runT,h0];exact ⟨_,_,_,rfl⟩
      |some l0=>exact absurd h0 (hno l0)
     |_=>simp only [Sem.runT,h0];exact ⟨_,_,_,rfl⟩
   unfold unwind at i;simp only [n] at i;by_cases A:∃l0,w.heap[r]?=some (.deferred (some l0))
   .obtain ⟨l0,h0⟩:=A;rw [hrun l0 h0] at i;have j:∃es,stepG P true g w=.go {frame:={g.frame with defers:=l0++J},callers:=g.callers,status:=.running,dying:=none} {w with heap:=w.heap.setIfInBounds r (.deferred none)} es:=⟨_,i⟩;obtain ⟨es,j⟩:=j;cases p with
    |comm h _=>rw [j] at h;cases h
    |go h _ _=>
     rw [j] at h;cases h;refine ih _ _ _ _ y l hm rfl s (fun d hd=>?_) t (fun r1 b1 E l1 h1=>?_) ⟨?_,fun a=>?_⟩
     .rcases List.mem_append.1 hd with k|k
      .exact hrow r b D l0 h0 d k
      .exact hmk d (by rw [n];exact List.mem_cons_of_mem _ k)
     .by_cases e:r=r1
      .subst e;simp only at h1;rw [sS (eS h0).1] at h1;cases h1
      .simp only [sN e] at h1;exact hrow r1 b1 E l1 h1
     .simp only [Array.size_setIfInBounds];exact m.1
     .rw [<-m.2 a];unfold World.cell?;by_cases e:r=a.block
      .simp only [<-e,sS (eS h0).1,h0]
      .simp only [sN e]
   .obtain ⟨h,u,es,hb⟩:=B (fun l0 k=>A ⟨l0,k⟩);rw [hb] at i;exfalso;have:∃o u es,stepG P true g w=.ended o u es:=⟨_,_,_,i⟩;obtain ⟨o,u,es,i⟩:=this;cases p with
    |comm h _=>rw [i] at h;cases h
    |go h _ _=>rw [i] at h;cases h
  |nil=>
   unfold unwind at i;simp only [n,hm,s] at i;generalize hcs:g.callers=cs at t i;cases t with
   |base=>
    exfalso;rcases I hcs with k|k
    .rw [hm] at k;cases k
    .exact k n
   | @cons c rest hc1 hm1 C=>
    have j:stepG P true g w=.go {frame:=c.raise (en::l),callers:=rest,status:=.running,dying:=none} w #[]:=i;cases p with
    |comm h _=>rw [j] at h;cases h
    |go h _ _=>
     rw [j] at h;cases h;have hr:∃l2,(c.raise (en::l)).mode=.panicking (en::l2):=by
      unfold Frame.raise;cases c.mode with
      |panicking ch=>exact ⟨l++ch,rfl⟩
      |_=>exact ⟨l,rfl⟩
     obtain ⟨l2,hr⟩:=hr;have hk:(c.raise (en::l)).defers=c.defers/\(c.raise (en::l)).catches P=c.catches P:=by
      unfold Frame.raise Frame.catches;cases c.mode<;>exact ⟨rfl,rfl⟩
     exact ih _ _ _ _ y l2 hr rfl (by rw [hk.2];exact hc1) (by rw [hk.1];exact hm1) C hrow m
section
open Go.Conc (crowd Past EvL Deaf QuitsD woken awake crowd_pick runT_crowd_go Goes AtRel goes_elim)
open Go.ConcN (sumTo upd sumTo_upd upd_ne upd_same)
variable {P:Wv} {Post:Wx->Wj->Prop}
def DB (B:Nat):Wj->Wj->Array Event->Prop:=fun _ _ es=>∀e∈es,EvL gJ B e
def F7 (P:Wv)(Post:Wx->Wj->Prop)(B:Nat)(g:Wk)(W:Wj):Prop:=
 ∀ (gs:Array Wk) (sl:Option (Nat×Nat)) (t:Trace) (q:Nat->Nat),gs[0]?=some g->Lv P (fun _=>False) t gs q->Past gJ B t->Fin P Post gs W sl t
theorem vF {B:Nat}:∀ {n:Nat}{g:Wk}{W:Wj},Goes P true AtRel (DB B) (F7 P Post B) n g W->F7 P Post B g W:=by
 intro n;induction n with
 |zero=>intro g W h;exact h W ⟨W.drawn,rfl⟩
 |succ n ih=>
  intro g W h gs sl t q h0 c hP;rcases h with h|⟨hr,h⟩
  .exact h W ⟨W.drawn,rfl⟩ gs sl t q h0 c hP
  .obtain ⟨M,hM⟩:∃M,sumTo gs.size q<=M:=⟨_,lR _⟩;obtain ⟨d0,b⟩:∃d0,W=W.at d0:=⟨W.drawn,rfl⟩;rw [b];clear b;induction M using Nat.strongRecOn generalizing gs sl t q d0 with
   |_ M f=>
    obtain ⟨i,x,d',sl',e,hx,hst⟩:=crowd_pick (P:=P) (w:=W.at d0) (sl:=sl) (g9 c h0 hr) ⟨0,g,h0,hr⟩;rw [bJ] at hst;rcases Nat.eq_zero_or_pos i with rfl|hpos
    .obtain rfl:x=g:=by rw [h0] at e;exact (oJ e).symm
     obtain ⟨g',W',es,j,hev,hnx⟩:=goes_elim (h (W.at d') ⟨d',rfl⟩);obtain ⟨a,ops,e1,e2,e3,e4,-,e6⟩:=pM (w:=W.at d0) c e (.inl rfl) (d:=d') (by rw [bJ];exact hst) (show stepG P (0==0) x ((W.at d0).at d')=_ from j);subst e2;exact Fin.next e1 (ih hnx a sl' _ q e4 e6 (hP.own hev))
    .obtain ⟨a,q',ops,e1,e2,e3,e4,e5,e6,-⟩:=slip (w:=W.at d0) (d:=d') c hP (jE B) e hx hpos (fun k=>k) (firm0 h0 hr _) (by rw [bJ];exact hst);rw [bJ] at e1;exact Fin.next e1 (f _ (by omega) a sl' (t++ops) q' ((e3 0 (.inl rfl)).trans h0) e4 e5 (lR _) d')
end
