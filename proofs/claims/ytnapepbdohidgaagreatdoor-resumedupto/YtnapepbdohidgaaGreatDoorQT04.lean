/- A part. -/
import Derived.Test.YtnapepbdohidgaaGreatDoorQT03
import Derived.Conc.Beside
import Derived.Conc.CrowdComm
import Derived.Conc.CrowdTrace
set_option maxHeartbeats 4000000
set_option maxRecDepth 100000
open Go renaming World->Wz,Value->Wq,Goroutine->Wj,Program->Wx,Frame->Wv,Addr->Ww,undef->Wy
namespace Go.Proofs.Qw
section
open Go.Conc (crowd Past EvL Deaf QuitsD woken awake crowd_pick runT_crowd_go rcase scase parked ph)
open Go.ConcN (sumTo upd sumTo_upd upd_ne upd_same)
def Fin (P:Wx)(Post:Wq->Wz->Prop)(gs:Array Wj)(w:Wz)(sl:Option (Nat×Nat))(t:Trace):Prop:=
 ∃N a o w' t',runNT P (N+1) (crowd gs w sl) t=(.ended o w',t')/\runN P N (crowd gs w sl)=.next a/\step P a=.ended o w'/\Conc.Good P Post a o w' t'
theorem Fin.next {P:Wx}{Post:Wq->Wz->Prop}{gs b:Array Wj}{w w':Wz}{sl a:Option (Nat×Nat)}{t:Trace}{ops:Array MemOp}(hs:stepT P (crowd gs w sl)=(.next (crowd b w' a),ops))(h:Fin P Post b w' a (t++ops)):Fin P Post gs w sl t:=by
 obtain ⟨N,c,o,w2,t2,h1,h2,h3,h4⟩:=h;exact ⟨N+1,c,o,w2,t2,by rw [runNT];simp only [hs];exact h1,by rw [runN];simp only [step,hs];exact h2,h3,h4⟩
theorem Fin.last {P:Wx}{Post:Wq->Wz->Prop}{gs:Array Wj}{w w':Wz}{sl:Option (Nat×Nat)}{t:Trace}{ops:Array MemOp}{o:Outcome}(hs:stepT P (crowd gs w sl)=(.ended o w',ops))(h:Conc.Good P Post (crowd gs w sl) o w' (t++ops)):Fin P Post gs w sl t:=
 ⟨0,crowd gs w sl,o,w',t++ops,by simp [runNT,hs],rfl,by simp [step,hs],h⟩
structure Lv (P:Wx)(K:Nat->Prop)(t:Trace)(gs:Array Wj)(q:Nat->Nat):Prop where
 old:∀i g,0<i->¬K i->gs[i]?=some g->QuitsD P (q i) (Deaf t i) g
 above:∀j,gs.size<=j->Deaf t j=0
theorem jH {P:Wx}{n d:Nat}{g:Wj}(h:QuitsD P n d g)(w:Wz):g.again w=g:=Conc.again_running _ h.status
section
variable {P:Wx} {K:Nat->Prop} {Shun:Loc->Prop} {gs:Array Wj} {w:Wz} {sl:Option (Nat×Nat)} {t:Trace} {q:Nat->Nat}
theorem fO {P:Wx}{g g' o:Wj}{w:Wz}(h:o.again w=o):woken P g g' w o=o:=by
 unfold Conc.woken;split
 .exact h
 .rfl
theorem slip (z:Lv P K t gs q){Pa:Trace->Prop}(hP:Pa t)(n:∀ (t:Trace)(i:Nat)(fn:FuncId)(pos:String)(es:Array Event),i≠0->¬K i->Pa t->(∀e∈es,e.mute=true)->Pa (t++MemOp.ofEvents i fn pos es)){i:Nat}{g:Wj}{d:Nat}{m:Option (Nat×Nat)}(hi:gs[i]?=some g)(hg:g.status=.running)(r:0<i)(B:¬K i)
    (l:∀j o,(j=0\/K j)->gs[j]?=some o->o.again (w.at d)=o) (hst:stepT P (crowd gs w sl)=runT P (crowd gs (w.at d) m) i):
    ∃a q' ops,stepT P (crowd gs w sl)=(.next (crowd a (w.at d) m),ops)/\a.size=gs.size/\(∀j,(j=0\/K j)->a[j]?=gs[j]?)/\Lv P K (t++ops) a q'/\Pa (t++ops)/\sumTo a.size q'<sumTo gs.size q/\(∀u∈ops,u.g=i):=by
  have hq:=z.old i g r B hi;have C:(i==0)=false:=by simp;omega
  have hlt:i<gs.size:=(eS hi).1;cases p:q i with
  |zero=>rw [p] at hq;rw [hq.1] at hg;cases hg
  |succ k=>
    rw [p] at hq;rcases hq with ⟨hf,_⟩|⟨_,g',es,hm,s,v⟩
    . rw [hf] at hg;cases hg
    have hrunT:=runT_crowd_go (P:=P) (sl:=m) (i:=i) hi (by rw [C];exact s (w.at d));have hsz:((gs.map (woken P g g' (w.at d))).setIfInBounds i g').size=gs.size:=by simp
    have hsum:sumTo gs.size (upd q i k)+(k+1)=sumTo gs.size q+k:=by
      have:=sumTo_upd q k id hlt;simpa [p] using this
    refine ⟨_,upd q i k,_,hst.trans hrunT,hsz,fun j f=>?_,⟨fun j x f A hx=>?_,fun j f=>?_⟩,n t i _ _ es (by omega) B hP hm,by rw [hsz];omega,fun u b=>by obtain ⟨e,_,rfl⟩:=Conc.mem_ofEvents b;rfl⟩
    . have hne : i ≠ j := fun e => by subst e; rcases f with h | h; · omega
                                      . exact B h
      rw [sN hne,Array.getElem?_map];cases ho:gs[j]? with
      |none=>rfl
      |some o=>simp only [Option.map_some];rw [fO (l j o f ho)]
    . by_cases c:i=j
      . subst c
        rw [sS (by simpa using hlt)] at hx;obtain rfl:=oJ hx;rw [upd_same,Conc.Deaf_own];exact v
      . rw [sN c,Array.getElem?_map] at hx
        obtain ⟨y,hy,rfl⟩:=Option.map_eq_some_iff.1 hx;have hqj:=z.old j y f A hy;rw [fO (jH hqj _),upd_ne q k (Ne.symm c),Conc.Deaf_other t c _ (fun u b=>by obtain ⟨e,_,rfl⟩:=Conc.mem_ofEvents b;rfl)];exact hqj
    . rw [Conc.Deaf_other t (g':=i) (by simp at f;omega) _ (fun u b=>by obtain ⟨e,_,rfl⟩:=Conc.mem_ofEvents b;rfl)]
      exact z.above j (by simpa using f)
theorem qD (n:Lv P K t gs q){i:Nat}{a a':Wj}{w':Wz}{es:Array Event}{d:Nat}{f:Option (Nat×Nat)}(hi:gs[i]?=some a)(r:i=0\/K i)(hst:stepT P (crowd gs w sl)=runT P (crowd gs (w.at d) f) i)(m:stepG P (i==0) a (w.at d)=.go a' w' es):
    ∃b ops,stepT P (crowd gs w sl)=(.next (crowd b w' f),ops)/\ops=MemOp.ofEvents i a.frame.fn a.frame.place es/\b.size=gs.size/\b[i]?=some a'/\(∀j o,j≠i->gs[j]?=some o->b[j]?=some (woken P a a' w' o))/\Lv P K (t++ops) b q:=by
  have hrunT:=runT_crowd_go (P:=P) (sl:=f) (i:=i) hi m;have hlt:i<gs.size:=(eS hi).1;refine ⟨_,_,hst.trans hrunT,rfl,by simp,by simp [hlt],fun j o k ho=>?_,⟨fun j x k l hx=>?_,fun j k=>?_⟩⟩
  . rw [sN (Ne.symm k),Array.getElem?_map,ho];rfl
  . have hne : i ≠ j := fun e => by subst e; rcases r with h | h; · omega
                                    . exact l h
    rw [sN hne,Array.getElem?_map] at hx;obtain ⟨y,hy,rfl⟩:=Option.map_eq_some_iff.1 hx;have hq:=n.old j y k l hy;rw [fO (jH hq _),Conc.Deaf_other t hne _ (fun p c=>by obtain ⟨e,_,rfl⟩:=Conc.mem_ofEvents c;rfl)];exact hq
  . rw [Conc.Deaf_other t (g':=i) (by simp at k;omega) _ (fun p c=>by obtain ⟨e,_,rfl⟩:=Conc.mem_ofEvents c;rfl)]
    exact n.above j (by simpa using k)
def de (B:Nat):MemAct->Prop
 | .send c _| .sendDone c _| .recv c _ _| .recvDone c _| .close c| .recvClosed c=>c<B
 |_=>False
theorem de.low {B:Nat}{a:MemAct}(h:de B a):a.low B:=by cases a<;>first|exact h|exact h.elim
theorem de.none {B:Nat}{a:MemAct}(h:de B a):a.touch?=none:=by cases a<;>first|rfl|exact h.elim
theorem de.still {B:Nat}{a:MemAct}(h:de B a):a≠.mark .disable/\a≠.mark .enable:=by cases a<;>first|exact h.elim|exact ⟨by simp,by simp⟩
theorem bz (t:Trace)(g:Nat)(u:Trace)(c:∀b∈u,b.act≠.mark .disable/\b.act≠.mark .enable):Deaf (t++u) g=Deaf t g:=by
 obtain ⟨l⟩:=u;rw [Conc.Deaf_append];induction l generalizing t with
 |nil=>rfl
 |cons x l ih=>
  have hx:=c x (by simp);have e:Conc.deafStep g (Deaf t g) x=Deaf t g:=by
   obtain ⟨xg,xf,xp,d⟩:=x;cases d with
   |mark m=>cases m<;>first|rfl|exact absurd rfl hx.1|exact absurd rfl hx.2
   |_=>rfl
  rw [List.foldl_cons,e];exact ih t (fun b a=>c b (by simp at a ⊢;exact .inr a))
theorem Lv.put (b:Lv P K t gs q){a:Array Wj}{u:Trace}(d:∀op∈u,op.act≠.mark .disable/\op.act≠.mark .enable)(hsz:a.size=gs.size)(hs:∀j,0<j->¬K j->a[j]?=gs[j]?):Lv P K (t++u) a q:=
 ⟨fun i g hi c hg=>by rw [bz t i u d];exact b.old i g hi c (by rw [<-hs i hi c];exact hg),fun j hj=>by rw [bz t j u d];exact b.above j (by omega)⟩
theorem AE {B:Nat}(h:Past Shun B t){u:Trace}(d:∀c∈u,c.g=0/\de B c.act):Past Shun B (t++u):=
 h.app0 (fun c a=>(d c a).1) (fun c a b hb=>by rw [(d c a).2.none] at hb;cases hb) (bz t 0 u (fun c a=>(d c a).2.still)) (fun c a=>(d c a).2.low)
theorem Lv.alone (a:Lv P (fun _=>False) t gs q)(r:Nat)(b:Bool):partners (gs.setIfInBounds 0 ph) r b=[]:=by
 refine Conc.partners_nil (fun j x hx=>?_);rcases Conc.getElem?_stand gs 0 j x hx with ⟨-,rfl⟩|⟨hne,hx⟩
 .exact Conc.offersAt_ph r b
 .refine Conc.offersAt_of_not_blocked (fun e=>?_) r b;rcases (a.old j x (by omega) (fun k=>k) hx).status with h|h<;>rw [h] at e<;>cases e
end
def iu:Loc->Prop:=fun _=>False
theorem j5 {ρ:Ren}{V W:Wz}(S:bB ρ V W){e:Event}(h:i6 ρ e):EvL iu W.heap.size e:=by
 obtain ⟨b,wr,c⟩:=e;cases b with
 |cell a=>
  obtain ⟨x,h1,-⟩:=h;exact ⟨fun _ _ k=>k.elim,by simp,by simp,(S.lt h1).2⟩
 |obj r=>
  obtain ⟨x,h1,-⟩:=h;refine ⟨fun _ _ k=>k.elim,by simp,by simp,?_⟩;have:=(S.lt h1).2;cases wr<;>cases c<;>exact this
 |mark m=>
  have h:RMk m:=h;cases h with
  |extern f=>exact ⟨fun _ _ k=>k.elim,by simp,by simp,trivial⟩
  |noRoom=>exact ⟨fun _ _ k=>k.elim,by simp,by simp,trivial⟩
 |output=>exact ⟨fun _ _ k=>k.elim,by simp,by simp,trivial⟩
 |goroutines=>exact h.elim
inductive LSs (P:Wx)(T:Wj->Wz->Prop):Wj->Wz->Wj->Wz->Prop
 |refl (g:Wj) (w:Wz):LSs P T g w g w
 |step {g g1 g2:Wj} {w w1 w2:Wz} (hT:¬T g w) (τ:Nat->Question->Nat) (d:Nat) (h:LS P g (w.on τ d) g1 w1) (hs:LSs P T g1 w1 g2 w2):LSs P T g w g2 w2
theorem LSs.trans {P:Wx}{T:Wj->Wz->Prop}{a b c:Wj}{u v w:Wz}(h:LSs P T a u b v)(k:LSs P T b v c w):LSs P T a u c w:=by
 induction h with
 |refl=>exact k
 |step hT τ d h _ ih=>exact .step hT τ d h (ih k)
def Quiet (ρ:Ren)(V:Wz):Prop:=ρ.F mi=false/\∀a b o,ρ a b->V.heap[a]?=some o->o.isChan=true->∃n s q tm,o=.chan n #[] true s q tm
theorem Quiet.reach {ρ ρ':Ren}{w w' u u':Wz}(h:Quiet ρ w)(hS:ρ.F gu=false)(R:Reach ρ ρ' w w' u u'):Quiet ρ' u:=⟨by rw [R.le.F];exact h.1,fun a b o c ho hc=>by
 rcases R.chs.only h.1 a o ho hc with k|⟨k,-⟩
 .rcases R.new a b c with k2|⟨k2,-⟩
  .exact h.2 a b o k2 k hc
  .have:=(eS k).1;omega
 .rw [hS] at k;cases k⟩
structure Outer where
 Ko:Nat->Prop
 W0:Wz
 lt:∀b,Ko b->b<W0.heap.size
 R:Nat->Nat->Prop
 pin:Nat->Option (Array Wq)
 bad:TypeId
def Kp (U:Outer)(W:Wz):Prop:=U.W0.heap.size<=W.heap.size/\W.output=U.W0.output/\∀b,U.Ko b->W.heap[b]?=U.W0.heap[b]?
def Off (U:Outer)(ρ:Ren):Prop:=(∀a b,ρ a b->¬U.Ko b)/\(∀a b,U.R a b->ρ a b)/\ρ.pin=U.pin/\ρ.bad=U.bad
theorem Kp.keep {U:Outer}{W W1:Wz}{ρ:Ren}(h:Kp U W)(c:Off U ρ)(K:Keep ρ W W1):Kp U W1:=
 ⟨lT h.1 K.size,K.output.trans h.2.1,fun b hb=>(K.block b (lL (U.lt b hb) h.1) (fun a ha=>absurd hb (c.1 a b ha))).trans (h.2.2 b hb)⟩
theorem Off.new {U:Outer}{W:Wz}{ρ ρ':Ren}(c:Off U ρ)(h:Kp U W)(hle:∀a b,ρ a b->ρ' a b)(hn:∀a b,ρ' a b->ρ a b\/W.heap.size<=b)(hp:ρ'.pin=ρ.pin/\ρ'.bad=ρ.bad):Off U ρ':=⟨fun a b d hb=>by
 rcases hn a b d with k|k
 .exact c.1 a b k hb
 .have:=U.lt b hb;have:=h.1;omega,fun a b k=>hle a b (c.2.1 a b k),hp.1.trans c.2.2.1,hp.2.trans c.2.2.2⟩
theorem Kp.reach {U:Outer}{ρ ρ':Ren}{w w' u u':Wz}(h:Kp U w'/\Off U ρ)(R:Reach ρ ρ' w w' u u'):Kp U u'/\Off U ρ':=⟨h.1.keep h.2 R.keep,h.2.new h.1 R.le.sub (fun a b k=>(R.new a b k).imp id (·.2)) ⟨R.le.pin,R.le.bad⟩⟩
structure Rel (P:Wx) [Two P](U:Outer)(G:FuncId->Bool)(Y:List Wv)(ρ:Ren)(h g:Wj)(V W:Wz):Prop where
 go:RGo P ρ ([trap P.alt],Y) h g
 sim:bB ρ V W
 gid:GId P ρ
 ext:ge P ρ.F
 calm:ρ.F gu=false
 same:ρ.F=G
 firm:ρ.loose=false/\ρ.wide=false
 quiet:Quiet ρ V
 out:Kp U W/\Off U ρ
section
variable {P:Wx} [Two P]
def pk (P:Wx) [Two P](U:Outer)(G:FuncId->Bool)(Y:List Wv)(Post:Wq->Wz->Prop)(h:Wj)(V:Wz):Prop:=
 ∀ (gs:Array Wj) (g:Wj) (W:Wz) (sl:Option (Nat×Nat)) (t:Trace) (q:Nat->Nat) (ρ:Ren),gs[0]?=some g->Lv P (fun _=>False) t gs q->Past iu W.heap.size t->Rel P U G Y ρ h g V W->Fin P Post gs W sl t
def uZ (P:Wx) [Two P](U:Outer)(G:FuncId->Bool)(Y:List Wv)(T:Wj->Wz->Prop)(Post:Wq->Wz->Prop):Prop:=
 ∀ (f:FuncId) (a a':Array Wq) (fr fr':Wv) (cs b:List Wv) (V W:Wz) (ρ:Ren),Mk ρ.F f=true->RVs ρ a a'/\a.size=2->Rel P U G Y ρ {frame:=fr,callers:=cs,status:=.running,dying:=none} {frame:=fr',callers:=b,status:=.running,dying:=none} V W ->
  Dem P.alt (fun g _=>NB [trap P.alt] g) T {frame:=Frame.enter P.alt f a .normal,callers:=fr::cs,status:=.running,dying:=none} V ->
  (∀h2 V2,LSs P.alt T {frame:=Frame.enter P.alt f a .normal,callers:=fr::cs,status:=.running,dying:=none} V h2 V2->pk P U G Y Post h2 V2) ->
  ∀ (gs:Array Wj) (sl:Option (Nat×Nat)) (t:Trace) (q:Nat->Nat),gs[0]?=some {frame:=Frame.enter P f a' .normal,callers:=fr'::b,status:=.running,dying:=none}->Lv P (fun _=>False) t gs q->Past iu W.heap.size t->Fin P Post gs W sl t
omit [Two P] in
theorem RFs.nil_of {ρ:Ren}{x:Wv}{l':List Wv}(h:RFs P ρ ([x],[]) [x] l'):l'=[]:=by
 generalize hX:(([x],[]):List Wv×List Wv)=X at h;generalize hl:[x]=l at h;cases h with
 |base=>rw [<-hX]
 |cons _ _ a=>
  cases hl;subst hX;generalize hX:(([x],[]):List Wv×List Wv)=X at a;generalize hl:([]:List Wv)=l at a;cases a with
  |base=>rw [<-hX] at hl;cases hl
  |cons _ _ _=>cases hl
theorem j6 (B:Nat):∀ (t:Trace)(i:Nat)(fn:FuncId)(pos:String)(es:Array Event),i≠0->¬(fun _:Nat=>False) i->Past iu B t->(∀e∈es,e.mute=true)->Past iu B (t++MemOp.ofEvents i fn pos es):=
 fun _ _ _ _ _ hi _ h hm=>h.mute hi hm
def Leaf (P:Wx) [Two P](U:Outer)(G:FuncId->Bool)(T:Wj->Wz->Prop)(Post:Wq->Wz->Prop):Prop:=
 ∀ (h g:Wj) (V W:Wz) (ρ:Ren),T h V->Rel P U G [] ρ h g V W->∀d,∃v es ρ' V' W',stepG P true g (W.at d)=.ended (.done v) W' es/\Post v W'/\bB ρ' V' W'/\W.heap.size<=W'.heap.size/\∀e∈es,i6 ρ' e
theorem qE {ρ:Ren}{V W:Wz}(S:bB ρ V W){c c':CommCase}(k:RC ρ c c'){r cap j f:Nat}{buf:Array Wq}{cl tm:Bool}(hc:c.chan=.chan (some r))(ho:V.heap[r]?=some (.chan cap buf cl j f tm)):
  ∃r' a buf' b d e,c'.chan=.chan (some r')/\ρ r r'/\W.heap[r']?=some (.chan a buf' b d e tm)/\(ρ.loose=true\/RVs ρ buf buf')/\(ρ.wide=true\/cl=b)/\¬ρ.old r:=by
 have h:=k.chan;rw [hc] at h;generalize c'.chan=x at h;cases h with
 |chan h=>
  cases h with
  | @some _ r' h=>
   obtain ⟨o,o',k1,k2,l⟩:=S.obj _ _ h;rw [ho] at k1;cases k1;cases l with
   |chan _ a _ b _ _ s' q' _ hb hcl=>
    refine ⟨r',a,_,b,s',q',rfl,h,k2,hb,hcl,fun i=>?_⟩;obtain ⟨o,f1,f2⟩:=S.fix _ i;rw [ho] at f1;cases f1;exact f2
theorem wI {c:CommCase}{r:Nat}(h:c.chan=.chan (some r))(hs:c.send=none):c=rcase r c.zero:=by
 obtain ⟨a,b,z⟩:=c;simp only at h hs;subst h;subst hs;rfl
theorem AF {U:Outer}{T:Wj->Wz->Prop}{Post:Wq->Wz->Prop}{G:FuncId->Bool}(l:Leaf P U G T Post):∀h V,T h V->pk P U G [] Post h V:=by
 have p:∀ (gs:Array Wj) (g:Wj) (w:Wz),gs[0]?=some g->g.status=.running->∀j o,(j=0\/False)->gs[j]?=some o->o.again w=o:=fun gs g w h0 hr j o c ho=>by
  rcases c with rfl|c
  .rw [h0] at ho;cases ho;exact Conc.again_running _ (.inl hr)
  .exact c.elim
 have z:∀ (gs:Array Wj) (g:Wj) (t:Trace) (q:Nat->Nat),gs[0]?=some g->g.status=.running->Lv P (fun _=>False) t gs q->∀x∈gs,awake x:=fun gs g t q h0 hr m x hx=>by
  obtain ⟨i,hi,rfl⟩:=Array.mem_iff_getElem.1 hx;rcases Nat.eq_zero_or_pos i with rfl|b
  .have:gs[0]=g:=by simpa [eG hi] using h0
   rw [this];exact Conc.awake_of (.inl hr)
  .exact Conc.awake_of ((m.old i _ b (fun k=>k) (eG hi)).status.elim .inl fun x=>.inr (.inr x))
 intro h V B;intro gs g W sl t q ρ h0 m hP a;obtain ⟨M,hM⟩:∃M,sumTo gs.size q<=M:=⟨_,lR _⟩;induction M using Nat.strongRecOn generalizing gs W sl t q with
 |_ M ih=>
  have hr:=a.go.status.2;obtain ⟨i,x,d,n,hi,hx,hst⟩:=crowd_pick (P:=P) (w:=W) (sl:=sl) (z gs g t q h0 hr m) ⟨0,g,h0,hr⟩;rcases Nat.eq_zero_or_pos i with rfl|b
  .obtain rfl:x=g:=by rw [h0] at hi;exact (oJ hi).symm
   obtain ⟨v,es,ρ',V',W',he,f,r,hsz,A⟩:=l h x V W ρ B a d;have hrunT:=Conc.runT_many_ended (P:=P) (sl:=n) (i:=0) hi (show stepG P (0==0) x (W.at d)=_ from he);have hP':=(hP.mono hsz).own (fn:=x.frame.fn) (pos:=x.frame.place) (fun e he=>j5 r (A e he));refine Fin.last (hst.trans hrunT) ⟨v,rfl,f,hP'.clean,hP'.over,⟨fun y hy=>?_,rfl⟩,fun j y hy c=>?_⟩
   .obtain ⟨j,c⟩:=List.mem_iff_getElem?.1 hy;rw [List.getElem?_drop] at c;exact ⟨_,(m.old (1+j) y (by omega) (fun k=>k) (by simpa [crowd] using c)).leaves⟩
   .have hq:=m.old j y (by omega) (fun k=>k) hy;refine ⟨q j,?_⟩;have e:(t++MemOp.ofEvents 0 x.frame.fn x.frame.place es).deaf j (t++MemOp.ofEvents 0 x.frame.fn x.frame.place es).size=Deaf t j:=
     Conc.Deaf_other t (g:=j) (g':=0) (by omega) _ (fun op u=>by obtain ⟨e,_,rfl⟩:=Conc.mem_ofEvents u;rfl)
    rw [e];exact hq.hears _
  .obtain ⟨s,q',ops,e1,e2,e3,e4,e5,e6,-⟩:=slip m hP (j6 W.heap.size) hi hx b (fun k=>k) (p gs g _ h0 hr) hst;exact Fin.next e1 (ih _ (by omega) s (W.at d) n (t++ops) q' ((e3 0 (.inl rfl)).trans h0) e4 e5 ⟨a.go,⟨a.sim.obj,a.sim.fix,a.sim.chan,a.sim.os,a.sim.pin⟩,a.gid,a.ext,a.calm,a.same,a.firm,a.quiet,a.out⟩ (lR _))
theorem EZ (hZ:bF P)(hN:bL P){U:Outer}{T:Wj->Wz->Prop}{Post:Wq->Wz->Prop}{G:FuncId->Bool}{Y:List Wv}(Q:∀h V,T h V->pk P U G Y Post h V)(hap:uZ P U G Y T Post){h:Wj}{V:Wz}(hD:Dem P.alt (fun g _=>NB [trap P.alt] g) T h V):∀h2 V2,LSs P.alt T h V h2 V2->pk P U G Y Post h2 V2:=by
 have ad:∀ (gs:Array Wj) (g:Wj) (w:Wz),gs[0]?=some g->g.status=.running->∀j o,(j=0\/False)->gs[j]?=some o->o.again w=o:=fun gs g w h0 hr j o hj ho=>by
  rcases hj with rfl|hj
  .rw [h0] at ho;cases ho;exact Conc.again_running _ (.inl hr)
  .exact hj.elim
 have a7:∀ (gs:Array Wj) (g:Wj) (t:Trace) (q:Nat->Nat),gs[0]?=some g->g.status=.running->Lv P (fun _=>False) t gs q->∀x∈gs,awake x:=fun gs g t q h0 hr N x hx=>by
  obtain ⟨i,hi,rfl⟩:=Array.mem_iff_getElem.1 hx;rcases Nat.eq_zero_or_pos i with rfl|H
  .have:gs[0]=g:=by simpa [eG hi] using h0
   rw [this];exact Conc.awake_of (.inl hr)
  .exact Conc.awake_of ((N.old i _ H (fun k=>k) (eG hi)).status.elim .inl fun x=>.inr (.inr x))
 induction hD with
 | @stop h V hT=>
  intro h2 V2 hs;cases hs with
  |step al _ _ _ _=>exact absurd hT al
  |refl=>exact Q _ _ hT
 | @step h V a6 hT a8 hn L=>
  intro h2 V2 hs;cases hs with
  |step al τ d hl hs=>exact L τ d _ _ hl h2 V2 hs
  |refl=>
   intro gs g W sl t q ρ h0 N hP b;obtain ⟨M,hM⟩:∃M,sumTo gs.size q<=M:=⟨_,lR _⟩;induction M using Nat.strongRecOn generalizing gs W sl t q with
   |_ M ih=>
    have hr:=b.go.status.2;obtain ⟨i,x,d,C,hi,hx,hst⟩:=crowd_pick (P:=P) (w:=W) (sl:=sl) (a7 gs g t q h0 hr N) ⟨0,g,h0,hr⟩;rcases Nat.eq_zero_or_pos i with rfl|H
    .obtain rfl:x=g:=by rw [h0] at hi;exact (oJ hi).symm
     have S:bB ρ (V.on W.tape d) (W.at d):=⟨b.sim.obj,b.sim.fix,b.sim.chan,b.sim.os,b.sim.pin⟩;have a2:Base ([trap P.alt],Y) h.frame x.callers:=fun e=>a6 (b.go.callers.tail e)
     have sf:=jc hZ b.ext hN b.gid true b.go a2 S (fun i=>rfl);obtain ⟨h',V',hls⟩:=a8 W.tape d;have hcalm:=b.calm;rcases sf.rel with ⟨-,s⟩|⟨B,l⟩|⟨f,ρ',a,a',fr,fr',cs,a3,u,u',es,es',A⟩
     .cases hls with
      |go e hr2 X=>
       have s:Lost (stepG P.alt true h (V.on W.tape d)):=s;rw [e] at s;obtain ⟨⟨_,_,e2,-⟩,-⟩:=s;rw [X] at e2;cases e2
      |comm e _=>
       have s:Lost (stepG P.alt true h (V.on W.tape d)):=s;rw [e] at s;exact s.elim
     .have B:stepG P.alt true h (V.on W.tape d)=stepG P true h (V.on W.tape d):=B;have hls0:=hls;cases hls with
      | @go _ _ es e hr2 X=>
       rw [B] at e;have l:db P ρ ([trap P.alt],Y) (V.on W.tape d) (W.at d) (stepG P true h (V.on W.tape d)) (stepG P true x (W.at d)):=l;rw [e] at l;generalize hy:stepG P true x (W.at d)=y at l;cases l with
       | @go _ g' _ W' _ es' ρ' R hg he=>
        obtain ⟨E,ops,e1,e2,e3,e4,-,e6⟩:=qD N hi (.inl rfl) hst (show stepG P (0==0) x (W.at d)=_ from hy);subst e2;have hP':=(hP.mono (show W.heap.size<=W'.heap.size from R.keep.size)).own (fn:=x.frame.fn) (pos:=x.frame.place) (fun e k=>j5 R.sim (he e k));exact Fin.next e1 (L W.tape d _ _ hls0 _ _ (.refl _ _) E g' W' C _ q ρ' e4 e6 hP' ⟨hg,R.sim,b.gid.mono R.le,by rw [R.le.F];exact b.ext,by rw [R.le.F];exact hcalm,R.le.F.trans b.same,⟨R.le.loose.trans b.firm.1,R.le.wide.trans b.firm.2⟩,Quiet.reach (w:=V.on W.tape d) b.quiet hcalm R,Kp.reach (w':=W.at d) b.out R⟩)
      | @comm h1 c sh V1 es _ _ e hc=>
       rw [B] at e;have l:db P ρ ([trap P.alt],Y) (V.on W.tape d) (W.at d) (stepG P true h (V.on W.tape d)) (stepG P true x (W.at d)):=l;rw [e] at l;generalize hy:stepG P true x (W.at d)=y at l;cases l with
       | @comm _ g' _ c' hC _ hsh hrun _ W1 _ es' ρ' R hg hcc he _=>
        have hsend:c.send=none:=by
         cases hx:c.send with
         |none=>rfl
         |some v=>rw [hC.1 (by rw [hx];rfl)] at hcalm;cases hcalm
        have K:c'.send=none:=by
         rcases hcc.send with ⟨-,k⟩|⟨v,_,k,-⟩
         .exact k
         .rw [hsend] at k;cases k
        have J:ρ'.F gu=false:=by rw [R.le.F];exact hcalm
        have z:Quiet ρ' V1:=Quiet.reach (w:=V.on W.tape d) b.quiet hcalm R;have p:ρ'.loose=false/\ρ'.wide=false:=⟨R.le.loose.trans b.firm.1,R.le.wide.trans b.firm.2⟩;have hP1:=(hP.mono (show W.heap.size<=W1.heap.size from R.keep.size)).own (fn:=x.frame.fn) (pos:=x.frame.place) (fun e k=>j5 R.sim (he e k));have O:∀I∈MemOp.ofEvents 0 x.frame.fn x.frame.place es',I.act≠.mark .disable/\I.act≠.mark .enable:=fun I D=>by
         obtain ⟨e,k,rfl⟩:=Conc.mem_ofEvents D;have k:=he e k;obtain ⟨a4,wr,sy⟩:=e;cases a4 with
         |mark m=>cases (show RMk m from k)<;>exact ⟨by simp [MemAct.ofEvent],by simp [MemAct.ofEvent]⟩
         |goroutines=>exact k.elim
         |_=>cases wr<;>cases sy<;>exact ⟨by simp [MemAct.ofEvent],by simp [MemAct.ofEvent]⟩
        have af:0<gs.size:=(eS h0).1;have ab:∀ (g2:Wj) (W2:Wz) (u:Trace),runT P (crowd gs (W.at d) C) 0=(.next (crowd (gs.setIfInBounds 0 g2) W2 C),MemOp.ofEvents 0 x.frame.fn x.frame.place es'++u)->(∀I∈u,I.g=0/\de W1.heap.size I.act)->W2.heap.size=W1.heap.size->Rel P U G Y ρ' _ g2 _ W2->Fin P Post gs W sl t:=fun g2 W2 u hrt hu hsz a1=>by
         refine Fin.next (hst.trans hrt) (L W.tape d _ _ hls0 _ _ (.refl _ _) (gs.setIfInBounds 0 g2) g2 W2 C _ q ρ' (by simp [af]) ?_ ?_ a1)
         .refine N.put (fun I D=>?_) (by simp) (fun j hj _=>by rw [sN (by omega)]);rcases Array.mem_append.1 D with k|k
          .exact O I k
          .exact (hu I k).2.still
         .rw [<-Array.append_assoc,hsz];exact AE hP1 hu
        cases hc with
        |send k1 k2 Z k4=>rw [hsend] at k2;cases k2
        |dead k1 k2 Z=>rw [hsend] at k2;cases k2
        | @recv r cap a0 ar buf cl tm k1 k2 Z k4=>
         exfalso;obtain ⟨r',ap,buf',a5,s',q',m1,m2,m3,m4,m5,m6⟩:=qE R.sim hcc k1 Z;obtain ⟨n,s0,q0,tm0,e0⟩:=z.2 r r' _ m2 Z rfl;cases e0;simp at k4
        | @shut r cap a0 ar tm k1 k2 Z=>
         obtain ⟨r',ap,buf',a5,s',q',m1,m2,m3,m4,m5,m6⟩:=qE R.sim hcc k1 Z;have m4:RVs ρ' #[] buf':=m4.resolve_left (by rw [p.1];exact fun h=>by cases h);obtain rfl:=m5.resolve_left (by rw [p.2];exact fun h=>by cases h);obtain rfl:buf'=#[]:=Array.eq_empty_of_size_eq_zero (by rw [<-m4.size];rfl);have hc':=wI m1 K;have hlt:=(R.sim.lt m2).2;rw [hc'] at hy;refine ab _ _ _ (Conc.crowd_recv_closed (i:=0) hi (show stepG P (0==0) x (W.at d)=_ from hy) m3 (N.alone r' true)) (fun I D=>?_) rfl ⟨?_,R.sim,b.gid.mono R.le,by rw [R.le.F];exact b.ext,J,R.le.F.trans b.same,p,z,Kp.reach (w':=W.at d) b.out R⟩
         .simp at D;subst D;exact ⟨rfl,hlt⟩
         .rw [<-hc'];exact dz hg hcc sh hsh hcc.zero false
     .have hls0:=hls;have ho:stepG P.alt true h (V.on W.tape d)=_:=A.other;cases hls with
      |comm e _=>rw [ho] at e;cases e
      |go e hr2 X=>
       rw [ho] at e;cases e;have a9:stepG P true x (W.at d)=_:=A.there;obtain ⟨E,ops,e1,e2,e3,e4,-,e6⟩:=qD N hi (.inl rfl) hst (show stepG P (0==0) x (W.at d)=_ from a9);subst e2;have hP':=(hP.mono (show W.heap.size<=u'.heap.size from A.reach.keep.size)).own (fn:=x.frame.fn) (pos:=x.frame.place) (fun e k=>j5 A.reach.sim (A.ev e k));have hle:=A.reach.le;refine Fin.next e1 (hap f a a' fr fr' cs a3 _ u' ρ' (by rw [hle.F];exact A.mark) A.args ⟨⟨A.frame,A.callers,A.kind,⟨rfl,rfl⟩,⟨rfl,rfl⟩,rfl,rfl⟩,A.reach.sim,b.gid.mono hle,by rw [hle.F];exact b.ext,by rw [hle.F];exact hcalm,hle.F.trans b.same,⟨hle.loose.trans b.firm.1,hle.wide.trans b.firm.2⟩,Quiet.reach (w:=V.on W.tape d) b.quiet hcalm A.reach,Kp.reach (w':=W.at d) b.out A.reach⟩ (hn _ _ _ _ hls0) (fun h2 V2 hs=>L _ _ _ _ hls0 h2 V2 hs) E C _ q e4 e6 hP')
    .obtain ⟨E,q',ops,e1,e2,e3,e4,e5,e6,-⟩:=slip N hP (j6 W.heap.size) hi hx H (fun k=>k) (ad gs g _ h0 hr) hst;exact Fin.next e1 (ih _ (by omega) E (W.at d) C (t++ops) q' ((e3 0 (.inl rfl)).trans h0) e4 e5 ⟨b.go,⟨b.sim.obj,b.sim.fix,b.sim.chan,b.sim.os,b.sim.pin⟩,b.gid,b.ext,b.calm,b.same,b.firm,b.quiet,b.out⟩ (lR _))
end
end
section
open Go.Conc (crowd Past EvL Deaf QuitsD woken awake crowd_pick runT_crowd_go rcase scase parked ph Knows Before touchAt touch_of touchAt_of getElem?_append_cases getElem?_append_old knows_own noRace_append lt_size_of_getElem?)
def Tk (ρ:Ren)(a:Touch):Prop:=
 match a.loc with
 | .cell b=>∃x,ρ x b.block/\(a.write=true->¬ρ.old x)/\¬ρ.ch x
 | .obj r=>∃x,ρ x r/\(a.write=true->¬ρ.old x)/\(a.kind≠.atomic->¬ρ.ch x)
 |_=>True
theorem Tk.mono {ρ ρ':Ren}(l:ρ.le ρ'){a:Touch}(h:Tk ρ a):Tk ρ' a:=by
 obtain ⟨b,wr,kd⟩:=a;cases b with
 |cell ad=>obtain ⟨x,h1,h2,h3⟩:=h;exact ⟨x,l _ _ h1,by rw [l.old];exact h2,by rw [l.ch];exact h3⟩
 |obj r=>obtain ⟨x,h1,h2,h3⟩:=h;exact ⟨x,l _ _ h1,by rw [l.old];exact h2,by rw [l.ch];exact h3⟩
 |_=>trivial
theorem Hn {ρ:Ren}{e:Event}(h:i6 ρ e){a:Touch}(ht:(MemAct.ofEvent e).touch?=some a):Tk ρ a:=by
 obtain ⟨b,wr,c⟩:=e;cases b with
 |cell ad=>
  simp only [MemAct.ofEvent,MemAct.touch?,oI] at ht;subst ht;exact h
 |obj r=>
  obtain ⟨x,h1,h2,h3⟩:=h;cases wr<;>cases c<;>simp only [MemAct.ofEvent,MemAct.touch?,oI] at ht<;>first|cases ht;done|(subst ht;exact ⟨x,h1,h2,fun k=>h3 (by first|rfl|exact absurd rfl k)⟩)
 |mark m=>
  have h:RMk m:=h;cases h<;>simp [MemAct.ofEvent,MemAct.touch?] at ht
 |output=>
  simp only [MemAct.ofEvent,MemAct.touch?,oI] at ht;subst ht;trivial
 |goroutines=>exact h.elim
def Far (ρ ρ':Ren):Prop:=∀b x y,ρ x b->ρ' y b->(ρ.old x/\ρ'.old y)\/(ρ.ch x/\ρ'.ch y)
theorem Far.symm {ρ ρ':Ren}(h:Far ρ ρ'):Far ρ' ρ:=fun b x y h1 h2=>(h b y x h2 h1).imp (fun k=>⟨k.2,k.1⟩) (fun k=>⟨k.2,k.1⟩)
theorem Far.no {ρ ρ':Ren}(h:Far ρ ρ'){a b:Touch}(ha:Tk ρ a)(hb:Tk ρ' b)(c:Bool):¬a.conflicts c b:=by
 obtain ⟨la,wa,d⟩:=a;obtain ⟨lb,wb,kb⟩:=b;rintro ⟨h1,h2,h3,h4⟩;simp only at h1 h2 h3 h4;subst h1;cases la with
 |cell ad=>
  obtain ⟨x,x1,x2,x3⟩:=ha;obtain ⟨y,y1,y2,y3⟩:=hb;rcases h _ x y x1 y1 with ⟨k1,k2⟩|⟨k1,-⟩
  .rcases h3 with h3|h3
   .exact x2 h3 k1
   .exact y2 h3 k2
  .exact x3 k1
 |obj r=>
  obtain ⟨x,x1,x2,x3⟩:=ha;obtain ⟨y,y1,y2,y3⟩:=hb;rcases h _ x y x1 y1 with ⟨k1,k2⟩|⟨k1,k2⟩
  .rcases h3 with h3|h3
   .exact x2 h3 k1
   .exact y2 h3 k2
  .have e1:d=.atomic:=Classical.byContradiction fun k=>x3 k k1
   have e2:kb=.atomic:=Classical.byContradiction fun k=>y3 k k2
   subst e1;subst e2;rcases h4 with h|h|⟨_,h,_⟩<;>cases h
 |_=>simp [Loc.isMemory] at h2
structure PhT (p q:Nat)(ρ ρ':Ren)(B:Nat)(t:Trace):Prop where
 ne:p≠q
 clean:∀said,¬Race said t
 kp:∀i a,touchAt t i=some a->a.loc.isMemory=true->Knows t p i\/(t.g? i=some q/\Tk ρ' a)
 kq:∀i a,touchAt t i=some a->a.loc.isMemory=true->Knows t q i\/(t.g? i=some p/\Tk ρ a)
 hp:Deaf t p=0
 hq:Deaf t q=0
 seen:∀op∈t,op.act.low B
section
variable {p q:Nat} {ρ ρ' ρ1:Ren} {B B':Nat} {t u:Trace}
theorem PhT.symm (h:PhT p q ρ ρ' B t):PhT q p ρ' ρ B t:=⟨h.ne.symm,h.clean,h.kq,h.kp,h.hq,h.hp,h.seen⟩
theorem g?_old {i g:Nat}(h:t.g? i=some g):(t++u).g? i=some g:=by
 unfold Trace.g? at h ⊢;obtain ⟨x,hx,hg⟩:=Option.map_eq_some_iff.1 h;rw [getElem?_append_old (lt_size_of_getElem? hx),hx];exact congrArg some hg
theorem PhT.app (h:PhT p q ρ ρ' B t)(l:ρ.le ρ1)(hF:Far ρ1 ρ')(o:B<=B')(j:∀d∈u,d.g=p/\d.act.low B'/\(d.act≠.mark .disable/\d.act≠.mark .enable)/\∀a,d.act.touch?=some a->Tk ρ1 a):PhT p q ρ1 ρ' B' (t++u):=by
 refine ⟨h.ne,fun m=>noRace_append (h.clean m) (fun d c=>(j d c).1) (fun i a ha d c b hb hc=>?_),fun i a ha hm=>?_,fun i a ha hm=>?_,?_,?_,fun d c=>?_⟩
 .rcases h.kp i a ha hc.2.1 with k|⟨-,k⟩
  .exact k
  .exact absurd hc (hF.symm.no k ((j d c).2.2.2 b hb) m)
 .obtain ⟨x,hx,e⟩:=touch_of ha;rcases getElem?_append_cases hx with ⟨_,n⟩|⟨_,f⟩
  .exact (h.kp i a (by rw [touchAt_of n];exact e) hm).imp (·.app u) (fun k=>⟨g?_old k.1,k.2⟩)
  .have:=knows_own hx;rw [(j x f).1] at this;exact .inl this
 .obtain ⟨x,hx,e⟩:=touch_of ha;rcases getElem?_append_cases hx with ⟨_,n⟩|⟨_,f⟩
  .exact (h.kq i a (by rw [touchAt_of n];exact e) hm).imp (·.app u) (fun k=>⟨g?_old k.1,k.2.mono l⟩)
  .exact .inr ⟨by simp [Trace.g?,hx,(j x f).1],(j x f).2.2.2 a e⟩
 .rw [bz t p u (fun d c=>(j d c).2.2.1)];exact h.hp
 .rw [bz t q u (fun d c=>(j d c).2.2.1)];exact h.hq
 .rcases Array.mem_append.1 c with k|k
  .exact MemAct.low_mono o (h.seen d k)
  .exact (j d k).2.1
theorem yA {e:Event}(h:i6 ρ e):MemAct.ofEvent e≠.mark .disable/\MemAct.ofEvent e≠.mark .enable:=by
 obtain ⟨a,wr,b⟩:=e;cases a with
 |mark m=>cases (show RMk m from h)<;>exact ⟨by simp [MemAct.ofEvent],by simp [MemAct.ofEvent]⟩
 |goroutines=>exact h.elim
 |_=>cases wr<;>cases b<;>exact ⟨by simp [MemAct.ofEvent],by simp [MemAct.ofEvent]⟩
theorem j7 {V W:Wz}(S:bB ρ V W){es:Array Event}(b:∀e∈es,i6 ρ e)(g:Nat)(fn:FuncId)(pos:String):∀c∈MemOp.ofEvents g fn pos es,c.g=g/\c.act.low W.heap.size/\(c.act≠.mark .disable/\c.act≠.mark .enable)/\∀a,c.act.touch?=some a->Tk ρ a:=fun c d=>by
 obtain ⟨e,he,rfl⟩:=Conc.mem_ofEvents d;exact ⟨rfl,(j5 S (b e he)).2.2.2,yA (b e he),fun a ha=>Hn (b e he) ha⟩
theorem vd {b:MemOp}(h:de B b.act):b.act.low B/\(b.act≠.mark .disable/\b.act≠.mark .enable)/\∀a,b.act.touch?=some a->Tk ρ a:=⟨h.low,h.still,fun a ha=>by rw [h.none] at ha;cases ha⟩
theorem PhT.mute (h:PhT p q ρ ρ' B t){g:Nat}(h1:g≠p)(h2:g≠q){fn:FuncId}{pos:String}{es:Array Event}(hm:∀e∈es,e.mute=true):PhT p q ρ ρ' B (t++MemOp.ofEvents g fn pos es):=by
 have j:∀d∈MemOp.ofEvents g fn pos es,d.g=g/\d.act.touch?=none/\d.act.low B:=fun d c=>by
  obtain ⟨e,he,rfl⟩:=Conc.mem_ofEvents c;exact ⟨rfl,Conc.touch_mute (hm e he),Conc.low_mute (hm e he) B⟩
 generalize MemOp.ofEvents g fn pos es=u at j;refine ⟨h.ne,fun n=>noRace_append (h.clean n) (fun d c=>(j d c).1) (fun i a ha d c b hb hc=>by rw [(j d c).2.1] at hb;cases hb),fun i a ha hm=>?_,fun i a ha hm=>?_,?_,?_,fun d c=>?_⟩
 .obtain ⟨x,hx,f⟩:=touch_of ha;rcases getElem?_append_cases hx with ⟨_,l⟩|⟨_,m⟩
  .exact (h.kp i a (by rw [touchAt_of l];exact f) hm).imp (·.app u) (fun k=>⟨g?_old k.1,k.2⟩)
  .rw [(j x m).2.1] at f;cases f
 .obtain ⟨x,hx,f⟩:=touch_of ha;rcases getElem?_append_cases hx with ⟨_,l⟩|⟨_,m⟩
  .exact (h.kq i a (by rw [touchAt_of l];exact f) hm).imp (·.app u) (fun k=>⟨g?_old k.1,k.2⟩)
  .rw [(j x m).2.1] at f;cases f
 .rw [Conc.Deaf_other t h1 u (fun d c=>(j d c).1)];exact h.hp
 .rw [Conc.Deaf_other t h2 u (fun d c=>(j d c).1)];exact h.hq
 .rcases Array.mem_append.1 c with k|k
  .exact h.seen d k
  .exact (j d k).2.2
theorem PhT.start (h:Past iu B t){k:Nat}(hk:k≠0)(hd:Deaf t k=0){x y:MemOp}(hx:x.g=0/\x.act=.go k)(hy:y.g=k/\y.act=.start):PhT 0 k ρ ρ' B (t++#[x,y]):=by
 have hn:∀d∈(#[x,y]:Trace),d.act.touch?=none/\d.act.low B/\(d.act≠.mark .disable/\d.act≠.mark .enable):=fun d c=>by
  simp at c;rcases c with rfl|rfl
  .rw [hx.2];exact ⟨rfl,trivial,by simp,by simp⟩
  .rw [hy.2];exact ⟨rfl,trivial,by simp,by simp⟩
 have e:t++#[x,y]=(t++#[x])++#[y]:=by apply Array.ext';simp
 have old:∀i a,touchAt (t++#[x,y]) i=some a->touchAt t i=some a:=fun i a ha=>by
  obtain ⟨z,hz,j⟩:=touch_of ha;rcases getElem?_append_cases hz with ⟨_,m⟩|⟨_,n⟩
  .rw [touchAt_of m];exact j
  .rw [(hn z n).1] at j;cases j
 have f:∀i a,touchAt t i=some a->a.loc.isMemory=true->Knows t 0 i:=fun i a ha hm=>(h.known i a ha hm).resolve_right (fun k=>k.1)
 refine ⟨hk.symm,fun l=>?_,fun i a ha hm=>.inl ((f i a (old i a ha) hm).app _),fun i a ha hm=>.inl (ConcN.fork_knows hx hy h.hears hd (f i a (old i a ha) hm)),?_,?_,fun d c=>?_⟩
 .rw [e];refine noRace_append (g:=k) (noRace_append (g:=0) (h.clean l) (fun d c=>by simp at c;subst c;exact hx.1) (fun i a _ d c b hb _=>?_)) (fun d c=>by simp at c;subst c;exact hy.1) (fun i a _ d c b hb _=>?_)
  .simp at c;subst c;rw [hx.2] at hb;cases hb
  .simp at c;subst c;rw [hy.2] at hb;cases hb
 .rw [bz t 0 _ (fun d c=>(hn d c).2.2)];exact h.hears
 .rw [bz t k _ (fun d c=>(hn d c).2.2)];exact hd
 .rcases Array.mem_append.1 c with k|k
  .exact h.seen d k
  .exact (hn d k).2.1
structure PhC (c pc:Nat)(ρ':Ren)(B:Nat)(t:Trace):Prop where
 clean:∀said,¬Race said t
 k0:∀i a,touchAt t i=some a->a.loc.isMemory=true->Knows t 0 i\/(Before t i pc/\Tk ρ' a)
 act:t.act? pc=some (.close c)
 heard:t.heard pc
 h0:Deaf t 0=0
 seen:∀op∈t,op.act.low B
variable {c pc:Nat}
theorem nR {i:Nat}(h:t.heard i):(t++u).heard i:=by
 obtain ⟨g,h1,h2⟩:=h;have hi:i<t.size:=by
  unfold Trace.g? at h1;obtain ⟨x,hx,_⟩:=Option.map_eq_some_iff.1 h1;exact lt_size_of_getElem? hx
 exact ⟨g,g?_old h1,by rw [Conc.deaf_old (by omega)];exact h2⟩
theorem act?_keep {i:Nat}{a:MemAct}(h:t.act? i=some a):(t++u).act? i=some a:=by rw [Conc.act?_old (Conc.lt_of_act? h)];exact h
theorem PhT.close (h:PhT 0 q ρ ρ' B t){y:MemOp}(hy:y.g=q/\y.act=.close c)(hc:c<B):PhC c t.size ρ' B (t++#[y]):=by
 have e:(t++#[y])[t.size]?=some y:=by rw [Array.getElem?_append_right (lR _)];simp
 refine ⟨fun l=>noRace_append (g:=q) (h.clean l) (fun n d=>by simp at d;subst d;exact hy.1) (fun i a _ n d b hb _=>by simp at d;subst d;rw [hy.2] at hb;cases hb),fun i a ha hm=>?_,by rw [Conc.act?_of e,hy.2],⟨q,by simp [Trace.g?,hy.1],by rw [Conc.deaf_old (lR _)];exact h.hq⟩,?_,fun n d=>?_⟩
 .obtain ⟨x,hx,f⟩:=touch_of ha;rcases getElem?_append_cases hx with ⟨hi,j⟩|⟨_,m⟩
  .rcases h.kp i a (by rw [touchAt_of j];exact f) hm with k|⟨k1,k2⟩
   .exact .inl (k.app _)
   .refine .inr ⟨.inr (Conc.hb_po hi hx e ?_),k2⟩;have:x.g=q:=by simpa [Trace.g?,j] using k1
    rw [this,hy.1]
  .simp at m;subst m;rw [hy.2] at f;cases f
 .rw [bz t 0 _ (fun n d=>by simp at d;subst d;rw [hy.2];exact ⟨by simp,by simp⟩)];exact h.hp
 .rcases Array.mem_append.1 d with k|k
  .exact h.seen n k
  .simp at k;subst k;rw [hy.2];exact hc
theorem PhC.app (h:PhC c pc ρ' B t)(hF:Far ρ1 ρ')(o:B<=B')(j:∀e∈u,e.g=0/\e.act.low B'/\(e.act≠.mark .disable/\e.act≠.mark .enable)/\∀a,e.act.touch?=some a->Tk ρ1 a):PhC c pc ρ' B' (t++u):=by
 refine ⟨fun f=>noRace_append (h.clean f) (fun e d=>(j e d).1) (fun i a ha e d b hb hc=>?_),fun i a ha hm=>?_,act?_keep h.act,nR h.heard,?_,fun e d=>?_⟩
 .rcases h.k0 i a ha hc.2.1 with k|⟨-,k⟩
  .exact k
  .exact absurd hc (hF.symm.no k ((j e d).2.2.2 b hb) f)
 .obtain ⟨x,hx,m⟩:=touch_of ha;rcases getElem?_append_cases hx with ⟨_,l⟩|⟨_,n⟩
  .exact (h.k0 i a (by rw [touchAt_of l];exact m) hm).imp (·.app u) (fun k=>⟨k.1.app u,k.2⟩)
  .have:=knows_own hx;rw [(j x n).1] at this;exact .inl this
 .rw [bz t 0 u (fun e d=>(j e d).2.2.1)];exact h.h0
 .rcases Array.mem_append.1 d with k|k
  .exact MemAct.low_mono o (h.seen e k)
  .exact (j e k).2.1
theorem PhC.mute (h:PhC c pc ρ' B t){g:Nat}(h1:g≠0){fn:FuncId}{pos:String}{es:Array Event}(hm:∀e∈es,e.mute=true):PhC c pc ρ' B (t++MemOp.ofEvents g fn pos es):=by
 have l:∀f∈MemOp.ofEvents g fn pos es,f.g=g/\f.act.touch?=none/\f.act.low B:=fun f d=>by
  obtain ⟨e,he,rfl⟩:=Conc.mem_ofEvents d;exact ⟨rfl,Conc.touch_mute (hm e he),Conc.low_mute (hm e he) B⟩
 generalize MemOp.ofEvents g fn pos es=u at l;refine ⟨fun m=>noRace_append (h.clean m) (fun f d=>(l f d).1) (fun i a ha f d b hb hc=>by rw [(l f d).2.1] at hb;cases hb),fun i a ha hm=>?_,act?_keep h.act,nR h.heard,?_,fun f d=>?_⟩
 .obtain ⟨x,hx,j⟩:=touch_of ha;rcases getElem?_append_cases hx with ⟨_,n⟩|⟨_,o⟩
  .exact (h.k0 i a (by rw [touchAt_of n];exact j) hm).imp (·.app u) (fun k=>⟨k.1.app u,k.2⟩)
  .rw [(l x o).2.1] at j;cases j
 .rw [Conc.Deaf_other t h1 u (fun f d=>(l f d).1)];exact h.h0
 .rcases Array.mem_append.1 d with k|k
  .exact h.seen f k
  .exact (l f k).2.2
theorem PhC.done (h:PhC c pc ρ' B t){y:MemOp}(hy:y.g=0/\y.act=.recvClosed c)(hc:c<B):Past iu B (t++#[y]):=by
 have e:(t++#[y])[t.size]?=some y:=by rw [Array.getElem?_append_right (lR _)];simp
 have u:(t++#[y]).heard t.size:=⟨0,by simp [Trace.g?,hy.1],by rw [Conc.deaf_old (lR _)];exact h.h0⟩;have m:HappensBefore (t++#[y]) pc t.size:=.single (.inr ⟨.closed (act?_keep h.act) (by rw [Conc.act?_of e,hy.2]),nR h.heard,u⟩);have f:∀i a,touchAt (t++#[y]) i=some a->a.loc.isMemory=true->Knows (t++#[y]) 0 i:=fun i a ha hm=>by
  obtain ⟨x,hx,l⟩:=touch_of ha;rcases getElem?_append_cases hx with ⟨_,r⟩|⟨_,p⟩
  .rcases h.k0 i a (by rw [touchAt_of r];exact l) hm with k|⟨k,-⟩
   .exact k.app _
   .exact ⟨t.size,y,e,hy.1,(k.app _).trans (.inr m)⟩
  .simp at p;subst p;rw [hy.2] at l;cases l
 refine ⟨fun o=>noRace_append (g:=0) (h.clean o) (fun q d=>by simp at d;subst d;exact hy.1) (fun i a _ q d b hb _=>by simp at d;subst d;rw [hy.2] at hb;cases hb),fun i a ha hm=>.inl (f i a ha hm),fun i g hg hne s=>?_,?_,fun q d=>?_⟩
 .obtain ⟨a,ha,hm,-⟩:=s;obtain ⟨j,z,hz,n,hb⟩:=f i a ha hm;refine ⟨j,by unfold Trace.g?;rw [hz];exact congrArg some n,?_⟩;rcases hb with rfl|hb
  .rw [Trace.g?,hz] at hg;exact absurd (by simpa [n] using hg.symm) hne
  .exact hb
 .rw [bz t 0 _ (fun q d=>by simp at d;subst d;rw [hy.2];exact ⟨by simp,by simp⟩)];exact h.h0
 .rcases Array.mem_append.1 d with k|k
  .exact h.seen q k
  .simp at k;subst k;rw [hy.2];exact hc
end
end
section
open Go.Conc (crowd Past EvL Deaf QuitsD woken awake crowd_pick runT_crowd_go rcase scase parked ph)
theorem yB (p:Wx)(g:Wj)(h:g.callers≠[])(w:Wz):stepG p true g w=stepG p false g w:=by
 obtain ⟨fr,cs,st,dy,of⟩:=g;cases cs with
 |nil=>exact absurd rfl h
 |cons c cs=>
  have e1:∀ (d:Option Dying) (v:Wq) (u:Wz),doReturn p true fr (c::cs) d v u=doReturn p false fr (c::cs) d v u:=fun d v u=>rfl
  have e2:∀ (d:Option Dying),unwind p true fr (c::cs) d w=unwind p false fr (c::cs) d w:=fun d=>by
   unfold unwind;simp only [e1]
  have e3:∀ (d:Option Dying),stepG.exec p true true fr (c::cs) d w=stepG.exec p false true fr (c::cs) d w:=fun d=>by
   unfold stepG.exec;simp only [e1]
  simp only [stepG,e2,e3]
def Flat (v:Wq):Prop:=∀ρ,RV ρ v v/\∀v',RV ρ v v'->v'=v
structure Side (P:Wx) [Two P](X:List Wv×List Wv)(ρ:Ren)(h g:Wj)(V W:Wz)(cV c:Nat)(L:List Wq):Prop where
 go:RGo P ρ X h g
 sim:bB ρ V W
 gid:GId P ρ
 ext:ge P ρ.F
 calm:ρ.F gu=false/\ρ.F mi=false
 loose:ρ.loose=true/\ρ.wide=true
 ch:ρ.ch cV
 pair:ρ cV c
 row:∃n b s q tm,V.heap[cV]?=some (.chan n b true s q tm)/\b.toList=L
structure Snd (P:Wx) [Two P](X:List Wv×List Wv)(ρ:Ren)(h g:Wj)(V W:Wz)(cs c:Nat)(L:List Wq):Prop where
 go:RGo P ρ X h g
 sim:bB ρ V W
 gid:GId P ρ
 ext:ge P ρ.F
 calm:ρ.F Gr=false/\ρ.F mi=false
 unmk:∀f,¬Mk ρ.F f=true
 loose:ρ.loose=true/\ρ.wide=false
 ch:∀x,ρ.ch x↔x=cs
 pair:ρ cs c
 row:∃n b s q tm,V.heap[cs]?=some (.chan n b false s q tm)/\b.toList=L
 only:∀ (a n:Nat) b s q tm,V.heap[a]?=some (.chan n b false s q tm)->a=cs
section
variable {P:Wx} [Two P] {X:List Wv×List Wv} {ρ:Ren} {h g h':Wj} {V V' W:Wz} {cV c:Nat} {L:List Wq}
omit [Two P] in
theorem RFs.len1 {ρ:Ren}{X:List Wv×List Wv}{l l':List Wv}(h:RFs P ρ X l l'):X.1.length<=l.length:=by
 induction h with
 |base=>exact lR _
 |cons _ _ _ ih=>simp only [List.length_cons];omega
theorem nS (o:bF P)(l:bL P)(m:Bool)(j:RGo P ρ X h g)(hb:Base X h.frame g.callers)(S:bB ρ V W)(n:GId P ρ)(hE:ge P ρ.F)(d:Nat)(hm:stepG P.alt m h (V.on W.tape d)=stepG P.alt true h (V.on W.tape d))(hl:LS P.alt h (V.on W.tape d) h' V')(hmk:∀f a' fr' c u' es',Mk ρ.F f=true->stepG P m g (W.at d)=.go {frame:=Frame.enter P f a' .normal,callers:=fr'::c,status:=.running,dying:=none} u' es'->False):
  stepG P m h (V.on W.tape d)=stepG P.alt true h (V.on W.tape d)/\db P ρ X (V.on W.tape d) (W.at d) (stepG P.alt true h (V.on W.tape d)) (stepG P m g (W.at d)):=by
 have S':bB ρ (V.on W.tape d) (W.at d):=⟨S.obj,S.fix,S.chan,S.os,S.pin⟩;have sf:=jc o hE l n m j hb S' (fun i=>rfl);rcases sf.rel with ⟨-,a⟩|⟨b,hst⟩|⟨f,_,_,_,_,_,_,_,_,_,_,_,A⟩
 .exfalso;have a:Lost (stepG P.alt m h (V.on W.tape d)):=a;rw [hm] at a;cases hl with
  |go e hr2 k=>
   rw [e] at a;obtain ⟨⟨_,_,e2,-⟩,-⟩:=a;rw [k] at e2;cases e2
  |comm e _=>rw [e] at a;exact a.elim
 .have b:stepG P.alt m h (V.on W.tape d)=stepG P m h (V.on W.tape d):=b;have hst:db P ρ X (V.on W.tape d) (W.at d) (stepG P m h (V.on W.tape d)) (stepG P m g (W.at d)):=hst;rw [<-b,hm] at hst;exact ⟨b.symm.trans hm,hst⟩
 .exact (hmk f _ _ _ _ _ A.mark A.there).elim
theorem m7 (b:bF P)(c:bL P)(m:Bool)(a:RGo P ρ X h g)(hb:Base X h.frame g.callers)(S:bB ρ V W)(e:GId P ρ)(hE:ge P ρ.F)(hmk:∀f,¬Mk ρ.F f=true)(d:Nat)(hm:stepG P.alt m h (V.on W.tape d)=stepG P.alt true h (V.on W.tape d))(hl:LS P.alt h (V.on W.tape d) h' V'):
  stepG P m h (V.on W.tape d)=stepG P.alt true h (V.on W.tape d)/\db P ρ X (V.on W.tape d) (W.at d) (stepG P.alt true h (V.on W.tape d)) (stepG P m g (W.at d)):=
 nS b c m a hb S e hE d hm hl (fun f _ _ _ _ _ h _=>hmk f h)
omit [Two P] in
theorem bB.other (S:bB ρ V W){W':Wz}{x0 b0:Nat}(h0:ρ x0 b0)(h:W'.os=W.os)(hs:∀x b,ρ x b->b≠b0->W'.heap[b]?=W.heap[b]?)(hc:∀o o',V.heap[x0]?=some o->W.heap[b0]?=some o'->RO ρ o o'->∃o2,W'.heap[b0]?=some o2/\RO ρ o o2)(f:∀c e z,V.heap[x0]?≠some (.cells c e z)):bB ρ V W':=by
 refine ⟨fun a b d=>?_,S.fix,S.chan,h.trans S.os,fun hb a c0 hp=>?_⟩
 rotate_left
 .obtain ⟨b,d,hP⟩:=S.pin hb a c0 hp;refine ⟨b,d,hP.same rfl (hs a b d (fun e=>?_))⟩;subst e;obtain rfl:=ρ.inj _ _ _ d h0;obtain ⟨c,t,z,_,_,k1,-⟩:=hP;exact f c t z k1
 obtain ⟨o,o',h1,h2,h3⟩:=S.obj a b d;by_cases hb:b=b0
 .subst hb;obtain rfl:=ρ.inj _ _ _ d h0;obtain ⟨o2,k1,k2⟩:=hc o o' h1 h2 h3;exact ⟨o,o2,h1,k1,k2⟩
 .exact ⟨o,o',h1,by rw [hs a b d hb];exact h2,h3⟩
def kO (W:Wz)(c:Nat)(n:Nat)(b:List Wq)(cl:Bool)(s q:Nat)(tm:Bool):Prop:=∃a,W.heap[c]?=some (.chan n a cl s q tm)/\a.toList=b
theorem Side.rowW (S:Side P X ρ h g V W cV c L):∃n b cl s q tm,kO W c n b cl s q tm:=by
 obtain ⟨n,b,s,q,tm,h1,h2⟩:=S.row;obtain ⟨o,o',k1,k2,a⟩:=S.sim.obj _ _ S.pair;rw [h1] at k1;cases k1;cases a with
 |chan=>exact ⟨_,_,_,_,_,_,_,k2,rfl⟩
theorem Side.other (S:Side P X ρ h g V W cV c L){W':Wz}(e:W'.os=W.os)(hs:∀x b,ρ x b->b≠c->W'.heap[b]?=W.heap[b]?){n f:Nat}{b b':List Wq}{cl d:Bool}{s q s' q':Nat}{tm:Bool}(h1:kO W c n b cl s q tm)(h2:kO W' c f b' d s' q' tm):Side P X ρ h g V W' cV c L:=by
 obtain ⟨a,h1,-⟩:=h1;obtain ⟨a',h2,-⟩:=h2;refine ⟨S.go,S.sim.other S.pair e hs (fun o o' k1 k2 i=>?_) (fun _ _ _ k=>by obtain ⟨_,_,_,_,_,k2,-⟩:=S.row;rw [k2] at k;cases k),S.gid,S.ext,S.calm,S.loose,S.ch,S.pair,S.row⟩;rw [h1] at k2;cases k2;refine ⟨_,h2,?_⟩;cases i with
 |chan=>exact .chan _ _ _ _ _ _ _ _ _ (.inl S.loose.1) (.inl S.loose.2)
 |dead=>obtain ⟨_,_,_,_,_,k,-⟩:=S.row;rw [k] at k1;cases k1
theorem Snd.rowW {cs:Nat}(S:Snd P X ρ h g V W cs c L):∃n b s q tm,kO W c n b false s q tm:=by
 obtain ⟨n,b,s,q,tm,h1,h2⟩:=S.row;obtain ⟨o,o',k1,k2,a⟩:=S.sim.obj _ _ S.pair;rw [h1] at k1;cases k1;cases a with
 |chan _ _ _ cl' _ _ _ _ _ hb hc=>
  obtain rfl:=hc.resolve_left (by rw [S.loose.2];exact fun h=>by cases h);exact ⟨_,_,_,_,_,_,k2,rfl⟩
theorem Snd.other {cs:Nat}(S:Snd P X ρ h g V W cs c L){W':Wz}(d:W'.os=W.os)(hs:∀x b,ρ x b->b≠c->W'.heap[b]?=W.heap[b]?){n e:Nat}{b b':List Wq}{s q s' q':Nat}{tm:Bool}(h1:kO W c n b false s q tm)(h2:kO W' c e b' false s' q' tm):Snd P X ρ h g V W' cs c L:=by
 obtain ⟨a,h1,-⟩:=h1;obtain ⟨a',h2,-⟩:=h2;refine ⟨S.go,S.sim.other S.pair d hs (fun o o' k1 k2 f=>?_) (fun _ _ _ k=>by obtain ⟨_,_,_,_,_,k2,-⟩:=S.row;rw [k2] at k;cases k),S.gid,S.ext,S.calm,S.unmk,S.loose,S.ch,S.pair,S.row,S.only⟩;rw [h1] at k2;cases k2;refine ⟨_,h2,?_⟩;cases f with
 |chan _ _ _ _ _ _ _ _ _ hb hc=>exact .chan _ _ _ _ _ _ _ _ _ (.inl S.loose.1) hc
 |dead=>obtain ⟨_,_,_,_,_,k,-⟩:=S.row;rw [k] at k1;cases k1
theorem Side.stays (S:Side P X ρ h g V W cV c L){W':Wz}(d:W'.os=W.os)(hs:∀x b,ρ x b->b≠c->W'.heap[b]?=W.heap[b]?)(hc:W'.heap[c]?=W.heap[c]?):Side P X ρ h g V W' cV c L:=by
 obtain ⟨n,b,cl,s,q,tm,a,h1,h2⟩:=S.rowW;exact S.other d hs ⟨a,h1,h2⟩ ⟨a,hc.trans h1,h2⟩
theorem Snd.stays {cs:Nat}(S:Snd P X ρ h g V W cs c L){W':Wz}(d:W'.os=W.os)(hs:∀x b,ρ x b->b≠c->W'.heap[b]?=W.heap[b]?)(hc:W'.heap[c]?=W.heap[c]?):Snd P X ρ h g V W' cs c L:=by
 obtain ⟨n,b,s,q,tm,a,h1,h2⟩:=S.rowW;exact S.other d hs ⟨a,h1,h2⟩ ⟨a,hc.trans h1,h2⟩
end
end
section
open Go.Conc (crowd Past EvL Deaf QuitsD woken awake crowd_pick runT_crowd_go rcase scase parked ph)
section
variable {P:Wx} [Two P] {X:List Wv×List Wv} {ρ:Ren} {h1 g1 h:Wj} {V1 V W W':Wz} {cV c:Nat} {L:List Wq} {cc:CommCase} {v z:Wq} {sh:CommShape}
theorem Side.case_ (S:Side P X ρ h1 g1 V1 W cV c L)(a:RC ρ cc (rcase c z)):cc.send=none/\(cc.chan=.chan (some cV)\/cc.chan=.tuple #[]):=by
 refine ⟨?_,?_⟩
 .rcases a.send with ⟨k,-⟩|⟨_,_,-,k,-⟩
  .exact k
  .cases k
 .have:=a.chan;simp only [rcase] at this;generalize cc.chan=x at this;cases this with
  |chan k=>
   cases k with
   |some k=>exact .inl (by rw [ρ.inj _ _ _ k S.pair])
  |dead=>exact .inr rfl
theorem Side.take (S:Side P X ρ h1 g1 V1 W cV c (v::L))(l:RC ρ cc (rcase c z))(x:∃ok,sh=.recv ok)(E:LC P.alt h1 cc sh V1 h V)(hv:Flat v)(C:W'.os=W.os)(hs:∀b,b≠c->W'.heap[b]?=W.heap[b]?){n y:Nat}{b b':List Wq}{cl i:Bool}{s q s' q':Nat}{tm:Bool}(r1:kO W c n b cl s q tm)(r2:kO W' c y b' i s' q' tm):
  Side P X ρ h (g1.finishComm P #[rcase c z] sh 0 v true) V W' cV c L:=by
 obtain ⟨d,hch⟩:=S.case_ l;obtain ⟨H,b0,s0,q0,e,e1,e2⟩:=S.row;have A:(cc.send.isSome=true/\sh=.send)\/(cc.send=none/\∃ok,sh=.recv ok):=.inr ⟨d,x⟩;have S2:=S.other C (fun _ b _ hb=>hs b hb) r1 r2;cases E with
 |send k1 k2 f k4=>rw [d] at k2;cases k2
 |dead k1 k2 f=>rw [d] at k2;cases k2
 | @shut r cap u t tm k1 k2 f=>
  rw [k1] at hch;rcases hch with hch|hch
  .cases hch;rw [e1] at f;cases f;simp at e2
  .cases hch
 | @recv r cap u t buf cl tm k1 k2 f k4=>
  rw [k1] at hch;rcases hch with hch|hch
  .cases hch;rw [e1] at f;cases f;have B:b0.getD 0 Wy=v:=by
    rw [gD,<-gT,e2];rfl
   have F:(b0.extract 1 b0.size).toList=L:=by
    have hl:b0.toList.length=b0.size:=lY;rw [Array.toList_extract,e2] at *;simp at hl ⊢;rw [<-hl];simp
   have hlt:=(S.sim.lt S.pair).1;refine ⟨?_,?_,S.gid,S.ext,S.calm,S.loose,S.ch,S.pair,⟨_,_,_,_,_,sS hlt,F⟩⟩
   .rw [B];exact dz S.go l sh A (hv ρ).1 true
   .obtain ⟨a',r2,-⟩:=r2;have hput:=S2.sim.put S.pair (o:=.chan H (b0.extract 1 b0.size) true s0 (q0+1) e) (o':=.chan y a' i s' q' _) (.chan _ _ _ _ _ _ _ _ _ (.inl S.loose.1) (.inl S.loose.2)) (fun m=>by
     obtain ⟨o,f1,f2⟩:=S.sim.fix _ m;rw [e1] at f1;cases f1;exact f2) (fun _=>rfl) (fun _ _ _ k=>by rw [e1] at k;cases k)
    have D:e=tm:=by
     obtain ⟨o,o',f1,f2,f3⟩:=S.sim.obj _ _ S.pair;obtain ⟨a,r1,-⟩:=r1;rw [e1] at f1;cases f1;rw [r1] at f2;cases f2;cases f3;rfl
    subst D;have p:c<W'.heap.size:=(eS r2).1;have e3:W'.heap.setIfInBounds c (.chan y a' i s' q' e)=W'.heap:=by
     apply Array.ext_getElem?;intro j;by_cases G:c=j
     .subst G;rw [sS p,r2]
     .rw [sN G]
    rw [e3] at hput;exact hput
  .cases hch
theorem Side.nothing (S:Side P X ρ h1 g1 V1 W cV c [])(b:RC ρ cc (rcase c z))(i:∃ok,sh=.recv ok)(e:LC P.alt h1 cc sh V1 h V):Side P X ρ h (g1.finishComm P #[rcase c z] sh 0 z false) V W cV c []:=by
 obtain ⟨a,hch⟩:=S.case_ b;obtain ⟨n0,b0,s0,q0,tm0,e1,e2⟩:=S.row;have f:(cc.send.isSome=true/\sh=.send)\/(cc.send=none/\∃ok,sh=.recv ok):=.inr ⟨a,i⟩;cases e with
 |send k1 k2 d k4=>rw [a] at k2;cases k2
 |dead k1 k2 d=>rw [a] at k2;cases k2
 |recv k1 k2 d k4=>
  rw [k1] at hch;rcases hch with hch|hch
  .cases hch;rw [e1] at d;cases d;have:b0=#[]:=Array.toList_inj.1 (by simpa using e2);rw [this] at k4;simp at k4
  .cases hch
 |shut k1 k2 d=>exact ⟨dz S.go b sh f b.zero false,S.sim,S.gid,S.ext,S.calm,S.loose,S.ch,S.pair,S.row⟩
end
section
variable {P:Wx} [Two P] {X:List Wv×List Wv} {ρ:Ren} {h1 g1 h:Wj} {V1 V W W':Wz} {cs c:Nat} {L:List Wq} {cc:CommCase} {v z:Wq}
theorem Snd.case_ (S:Snd P X ρ h1 g1 V1 W cs c L)(a:RC ρ cc (scase c v z)):(∃v0,cc.send=some v0/\RV ρ v0 v)/\(cc.chan=.chan (some cs)\/cc.chan=.tuple #[]):=by
 refine ⟨?_,?_⟩
 .rcases a.send with ⟨-,k⟩|⟨v0,v1,k,k2,b⟩
  .cases k
  .cases k2;exact ⟨v0,k,b⟩
 .have:=a.chan;simp only [scase] at this;generalize cc.chan=x at this;cases this with
  |chan k=>
   cases k with
   |some k=>exact .inl (by rw [ρ.inj _ _ _ k S.pair])
  |dead=>exact .inr rfl
theorem Snd.push (S:Snd P X ρ h1 g1 V1 W cs c L)(l:RC ρ cc (scase c v z))(p:LC P.alt h1 cc .send V1 h V)(A:W'.os=W.os)(hs:∀b,b≠c->W'.heap[b]?=W.heap[b]?){n u:Nat}{b b':List Wq}{s q s' q':Nat}{tm:Bool}(r1:kO W c n b false s q tm)(r2:kO W' c u b' false s' q' tm):
  ∃v0,RV ρ v0 v/\Snd P X ρ h (g1.finishComm P #[scase c v z] .send 0 Wy false) V W' cs c (L++[v0]):=by
 obtain ⟨⟨v0,d,t⟩,hch⟩:=S.case_ l;obtain ⟨C,b0,s0,q0,e,e1,e2⟩:=S.row;have y:(cc.send.isSome=true/\CommShape.send=.send)\/(cc.send=.none/\∃ok,CommShape.send=.recv ok):=.inl ⟨by rw [d];rfl,rfl⟩;have S2:=S.other A (fun _ b _ hb=>hs b hb) r1 r2;cases p with
 |recv k1 k2 f k4=>rw [d] at k2;cases k2
 |shut k1 k2 f=>rw [d] at k2;cases k2
 |dead k1 k2 f=>
  rw [k1] at hch;rcases hch with hch|hch
  .cases hch;rw [e1] at f;cases f
  .cases hch
 | @send r cap sent rcvd buf tm1 v1 k1 k2 f k4=>
  rw [d] at k2;cases k2;rw [k1] at hch;rcases hch with hch|hch
  .cases hch;rw [e1] at f;cases f;have hlt:=(S.sim.lt S.pair).1;refine ⟨v0,t,?_,?_,S.gid,S.ext,S.calm,S.unmk,S.loose,S.ch,S.pair,⟨_,_,_,_,_,sS hlt,by simp [e2]⟩,fun a n b s q tm ho=>?_⟩
   .exact dz S.go l .send y cT false
   .obtain ⟨a',r2,-⟩:=r2;have x:e=tm:=by
     obtain ⟨o,o',f1,f2,f3⟩:=S.sim.obj _ _ S.pair;obtain ⟨a,r1,-⟩:=r1;rw [e1] at f1;cases f1;rw [r1] at f2;cases f2;cases f3;rfl
    subst x;have hput:=S2.sim.put S.pair (o:=.chan C (b0.push v0) false (s0+1) q0 e) (o':=.chan u a' false s' q' e) (.chan _ _ _ _ _ _ _ _ _ (.inl S.loose.1) (.inr rfl)) (fun m=>by
     obtain ⟨o,f1,f2⟩:=S.sim.fix _ m;rw [e1] at f1;cases f1;exact f2) (fun _=>rfl) (fun _ _ _ k=>by rw [e1] at k;cases k)
    have i:c<W'.heap.size:=(eS r2).1;have e3:W'.heap.setIfInBounds c (.chan u a' false s' q' e)=W'.heap:=by
     apply Array.ext_getElem?;intro j;by_cases B:c=j
     .subst B;rw [sS i,r2]
     .rw [sN B]
    rw [e3] at hput;exact hput
   .by_cases ha:cs=a
    .exact ha.symm
    .simp only [sN ha] at ho;exact S.only a n b s q tm ho
  .cases hch
end
structure PhD (P:Wx) where
 T:Wj->Wz->Prop
 Nr:Wj->Wz->Prop
 Tr:Wj->Wz->Prop
 Ns:Wj->Wz->Prop
 Ts:Wj->Wz->Prop
 h0:Wj
 V0:Wz
 k:Nat
 c:Nat
 cV:Nat
 cr:Nat
 cs:Nat
 X:List Wv×List Wv
 Bs:List Wv
 L:List Wq
 R0:Nat->Nat->Prop
 Fp:FuncId->Bool
 Fr:FuncId->Bool
 bo:Nat
 U:Outer
variable {P:Wx} [Two P] (D:PhD P)
def eb (W:Wz)(c n:Nat)(b:Array Wq)(s q:Nat)(tm:Bool):Wz:=W.setChan c n b true s q tm
structure AG (D:PhD P)(ρ:Ren)(V W:Wz):Prop where
 base:(∀a b,D.R0 a b->ρ a b)/\ρ.F=D.Fp
 all:∀a b o,ρ a b->V.heap[a]?=some o->o.isChan=true->ρ.ch a
 rest:∀a b,ρ.ch a->ρ a b->a≠D.cV->∃n s q tm n' s' q',V.heap[a]?=some (.chan n #[] true s q tm)/\W.heap[b]?=some (.chan n' #[] true s' q' tm)
structure wJ (P:Wx) [Two P](D:PhD P)(Post:Wq->Wz->Prop):Prop where
 zero:bF P
 count:bL P
 mark:∀f,Mk D.Fp f=true->∀fn b,P.funcs[f]?=some fn->fn.body=some b->aA P D.Fr b=false
 k0:D.k≠0
 flat:∀v∈D.L,Flat v
 deep:2<=D.X.1.length
 leafT:∀h V,D.T h V->h.callers.length<=1
 nr:∀h V,D.Nr h V->NB [trap P.alt] h
 tr:∀h V,D.Tr h V->NB [trap P.alt] h/\(∀n b s q tm,V.heap[D.cr]?=some (.chan n b true s q tm)->b.toList=[])/\∀τ d,∃h1 cc s V1 es h' V',stepG P.alt true h (V.on τ d)=.comm h1 #[cc] true s V1 es/\LC P.alt h1 cc s V1 h' V'
 ns:∀h V,D.Ns h V->NB [trap P.alt] h
 bs:D.Bs≠[]
 grow:∀h V τ d h' V',D.Ns h V->LS P.alt h (V.on τ d) h' V'->∀n b cl s q tm,V.heap[D.cs]?=some (.chan n b cl s q tm)->∃n' b' cl' s' q' tm',V'.heap[D.cs]?=some (.chan n' b' cl' s' q' tm')/\((b.toList <+:b'.toList/\(cl=true->cl'=true))\/cl'=true)
 ts:∀h V,D.Ts h V->∀n b cl s q tm,V.heap[D.cs]?=some (.chan n b cl s q tm)->cl=false/\b.toList=D.L
 close:∀h V ρ g W,D.Ts h V->Snd P ([trap P.alt],D.Bs) ρ h g V W D.cs D.c D.L->∀n b s q tm,W.heap[D.c]?=some (.chan n b false s q tm)->∃g',mayWake P g=true/\g'.status=.running/\stepG P false g W=.go g' (eb W D.c n b s q tm) #[⟨.obj D.c,false,true⟩,⟨.obj D.c,true,true⟩]/\∃m,QuitsD P m 0 g'
 fin:∀ρ h g V W n s q tm gs sl t qs,Side P D.X ρ h g V W D.cV D.c []->AG D ρ V W->Kp D.U W/\Off D.U ρ->W.heap[D.c]?=some (.chan n #[] true s q tm)->LSs P.alt D.T D.h0 D.V0 h V->gs[0]?=some g->Lv P (fun _=>False) t gs qs->Past iu W.heap.size t->Fin P Post gs W sl t
section
variable {D} {Post:Wq->Wz->Prop}
theorem wJ.pre (O:wJ P D Post){h:Wj}{V:Wz}(hD:Dem P.alt D.Ns D.Ts h V):∀n b cl s q tm,V.heap[D.cs]?=some (.chan n b cl s q tm)->cl=false/\b.toList <+:D.L:=by
 induction hD with
 |stop e=>
  intro n b cl s q tm hr;obtain ⟨h1,h2⟩:=O.ts _ _ e n b cl s q tm hr;exact ⟨h1,h2▸List.prefix_refl _⟩
 | @step g w f e a _ ih=>
  intro n b cl s q tm hr;obtain ⟨h',V',hl⟩:=a w.tape w.drawn;obtain ⟨i,b',d,s',q',c,h1,h2⟩:=O.grow g w _ _ h' V' f hl n b cl s q tm hr;obtain ⟨k1,k2⟩:=ih _ _ h' V' hl i b' d s' q' c h1;rcases h2 with ⟨h2,h3⟩|h2
  rotate_left
  .rw [h2] at k1;cases k1
  refine ⟨?_,h2.trans k2⟩;cases cl with
  |false=>rfl
  |true=>rw [h3 rfl] at k1;cases k1
end
end
section
open Go.Conc (crowd Past EvL Deaf QuitsD woken awake crowd_pick runT_crowd_go rcase scase parked ph)
section
variable {P:Wx} {gs:Array Wj} {w w₁:Wz} {sl:Option (Nat×Nat)} {i j:Nat} {g g₂ gj:Wj} {es:Array Event} {shape shj:CommShape} {blocking:Bool}
 {c cap s r:Nat} {buf:Array Wq} {closed tm:Bool} {v z zj:Wq}
theorem nT (hi:gs[i]?=some g)(h:stepG P (i==0) g w=.comm g₂ #[rcase c z] blocking shape w₁ es)(hc:w₁.heap[c]?=some (.chan cap buf closed s r tm))(a:0<buf.size)
  (e:j≠i) (f:gs[j]?=some (parked gj #[scase c v zj] shj)) (hp:partners (gs.setIfInBounds i ph) c true=[(j,0)]):
  runT P (crowd gs w sl) i=(.next (crowd ((gs.setIfInBounds j (gj.finishComm P #[scase c v zj] shj 0 Wy false)).setIfInBounds i (g₂.finishComm P #[rcase c z] shape 0 (buf.getD 0 Wy) true)) (w₁.setChan c cap ((buf.extract 1 buf.size).push v) closed (s+1) (r+1) tm) sl),
   MemOp.ofEvents i g.frame.fn g.frame.place es++#[{g:=i,fn:=g₂.frame.fn,pos:=g₂.frame.place,act:=.recv c r cap},{g:=i,fn:=g₂.frame.fn,pos:=g₂.frame.place,act:=.recvDone c r},
    {g:=j,fn:=gj.frame.fn,pos:=gj.frame.place,act:=.send c s},{g:=j,fn:=gj.frame.fn,pos:=gj.frame.place,act:=.sendDone c s}]):=by
 rw [Conc.runT_crowd_comm hi h];have hj':=Conc.stand_get (i:=i) e f;have hfp:=Conc.finishPartner_at P (gs.setIfInBounds i ph) hj' (cs:=#[scase c v zj]) (sh:=shj) rfl 0 Wy;have d:(gs.setIfInBounds i ph).getD j default=parked gj #[scase c v zj] shj:=by rw [gD,hj'];rfl
 have b:offeredValue (gs.setIfInBounds i ph) j 0=v:=by simp [offeredValue,hj',parked,scase]
 simp [communicate,ways,rcase,hc,hp,a,choose,Sem.run,Question.forced,bind,Sem.bind,pure,World.setChan,crowd,hfp,d,b,Conc.set_stand2,scase,parked];rfl
end
def j8 (P : Wx) : List PanicEntry := [{ v := .iface P.rt.plainError (strVal "send on closed channel"), recovered := false }]
theorem nU {P:Wx}{gs:Array Wj}{w w₁:Wz}{sl:Option (Nat×Nat)}{i:Nat}{g g₂:Wj}{es:Array Event}{shape:CommShape}{blocking:Bool}{c cap s r:Nat}{buf:Array Wq}{tm:Bool}{v z:Wq}(hi:gs[i]?=some g)(h:stepG P (i==0) g w=.comm g₂ #[scase c v z] blocking shape w₁ es)(hc:w₁.heap[c]?=some (.chan cap buf true s r tm)):
  runT P (crowd gs w sl) i=(.next (crowd (gs.setIfInBounds i {g₂ with frame:=g₂.frame.raise (j8 P)}) w₁ sl),MemOp.ofEvents i g.frame.fn g.frame.place es):=by
 rw [Conc.runT_crowd_comm hi h];simp [communicate,ways,scase,hc,choose,Sem.run,Question.forced,bind,Sem.bind,pure,runtimePanic,goPanic,program,crowd,j8]
variable {P:Wx} [Two P]
structure Moved (ρ ρ' ρr ρr':Ren)(W W1:Wz)(c:Nat)(es:Array Event):Prop where
 le:ρ.le ρ'
 ler:ρr.le ρr'
 new:∀a b,ρ' a b->ρ a b\/W.heap.size<=b
 newr:∀a b,ρr' a b->ρr a b\/W.heap.size<=b
 keep:Keep ρr W W1
 row:W1.heap[c]?=W.heap[c]?
 ev:∀e∈es,i6 ρr' e
structure oP (D:PhD P)(ρ ρr:Ren)(W:Wz)(h hr g:Wj)(V Vr:Wz)(L:List Wq):Prop where
 side:Side P D.X ρ h g V W D.cV D.c L
 sideR:Side P ([trap P.alt],D.X.2) ρr hr g Vr W D.cr D.c L
 only:∀ (a:Nat) o,Vr.heap[a]?=some o->o.isChan=true->a=D.cr
 chR:∀x,ρr.ch x->x=D.cr
 unmk:(∀f,¬Mk ρr.F f=true)/\ρr.F=D.Fr
 base:(∀a b,D.R0 a b->ρ a b)/\ρ.F=D.Fp
 all:∀a b o,ρ a b->V.heap[a]?=some o->o.isChan=true->ρ.ch a
 rest:∀a b,ρ.ch a->ρ a b->a≠D.cV->∃n s q tm n' s' q',V.heap[a]?=some (.chan n #[] true s q tm)/\W.heap[b]?=some (.chan n' #[] true s' q' tm)
structure Gt (D:PhD P)(ρ ρr:Ren)(W:Wz)(h1 hr1 g1:Wj)(V1 Vr1:Wz)(L:List Wq)(z:Wq)(s:CommShape)(h hr:Wj)(V Vr:Wz):Prop where
 at1:oP D ρ ρr W h1 hr1 g1 V1 Vr1 L
 sh:∃ok,s=.recv ok
 atc:AtC P g1 (rcase D.c z) s
 rc:∃cc,RC ρ cc (rcase D.c z)/\LC P.alt h1 cc s V1 h V
 rcr:∃cc,RC ρr cc (rcase D.c z)/\LC P.alt hr1 cc s Vr1 hr Vr
section
variable {D:PhD P} {Post:Wq->Wz->Prop} {ρ ρr:Ren} {W:Wz} {h hr g:Wj} {V Vr:Wz} {L:List Wq}
omit [Two P] in
theorem LC.only {g g':Wj}{cc:CommCase}{s:CommShape}{V V':Wz}(h:LC P g cc s V g' V'){c0:Nat}(ho:∀ (a:Nat) o,V.heap[a]?=some o->o.isChan=true->a=c0):∀ (a:Nat) o,V'.heap[a]?=some o->o.isChan=true->a=c0:=by
 intro a o b hc;cases h with
 |shut=>exact ho a o b hc
 |dead=>exact ho a o b hc
 | @send r cap c d buf tm v h1 h2 h3 h4=>
  by_cases e:r=a
  .subst e;exact ho _ _ h3 rfl
  .exact ho a o (by simpa [e] using b) hc
 | @recv r cap c d buf cl tm h1 h2 h3 h4=>
  by_cases e:r=a
  .subst e;exact ho _ _ h3 rfl
  .exact ho a o (by simpa [e] using b) hc
theorem wK (O:wJ P D Post)(R:oP D ρ ρr W h hr g V Vr L)(ad:NB [trap P.alt] hr)(d:Nat){h' E:Wj}{V' Vr':Wz}(hl:LS P.alt h (V.on W.tape d) h' V')(T:LS P.alt hr (Vr.on W.tape d) E Vr'):
    ∃g1 W1 es ρ' ρr',Moved ρ ρ' ρr ρr' W W1 D.c es /\
      ((stepG P true g (W.at d)=.go g1 W1 es/\oP D ρ' ρr' W1 h' E g1 V' Vr' L) \/
       (∃h1 G V1 Vr1 z s,stepG P true g (W.at d)=.comm g1 #[rcase D.c z] true s W1 es/\Gt D ρ' ρr' W1 h1 G g1 V1 Vr1 L z s h' E V' Vr')):=by
  have S:=R.side;have Sr:=R.sideR;have K:Base ([trap P.alt],D.X.2) hr.frame g.callers:=fun e=>ad (Sr.go.callers.tail e)
  have hb:Base D.X h.frame g.callers:=fun e=>by
    rcases K e with k|k
    . have m1:=Sr.go.frame.mode
      have m2:=S.go.frame.mode;rw [k] at m1;cases hm:g.frame.mode<;>rw [hm] at m1<;>cases m1
      rw [hm] at m2
      left
      generalize h.frame.mode=x at m2;cases m2;rfl
    . right
      have m1:=Sr.go.frame.defers;have m2:=S.go.frame.defers;intro hn;rw [hn] at m2;generalize g.frame.defers=x at m1 m2;cases m2;generalize hr.frame.defers=y at m1 k;cases m1;exact k rfl
  obtain ⟨-,p⟩:=m7 O.zero O.count true Sr.go K Sr.sim Sr.gid Sr.ext R.unmk.1 d rfl T;obtain ⟨-,sv⟩:=nS O.zero O.count true S.go hb S.sim S.gid S.ext d rfl hl (fun f a' fr' cs' u' es' hM hst=>by
    have hst:stepG P true g (W.at d)=_:=hst;rw [hst] at p;obtain ⟨-,fn,-,Z,-,hbs,-⟩:=S.gid.apart f hM;obtain ⟨b,M⟩:=Option.isSome_iff_exists.1 hbs;have hno:=O.mark f (by rw [<-R.base.2];exact hM) fn b Z M;generalize stepG P.alt true hr (Vr.on W.tape d)=z at p;cases p with
    | @go hx _ _ _ _ _ ρ2 R2 hg2 _=>
      have ht:=hg2.frame.todo;have e:(Frame.enter P f a' .normal).todo=[.code b]:=by simp [Frame.enter,Z,M]
      simp only [e] at ht;generalize hx.frame.todo=td at ht;cases ht with
      |cons hi _=>
        cases hi with
        |code h=>
          rw [R2.le.F,R.unmk.2,hno] at h;cases h)
  have m:∀ {ρ':Ren},ρ.le ρ'->(ρ'.F gu=false/\ρ'.F mi=false)/\(ρ'.loose=true/\ρ'.wide=true)/\ρ'.ch D.cV:=fun l=>⟨by rw [l.F];exact S.calm,by rw [l.loose,l.wide];exact S.loose,by rw [l.ch];exact S.ch⟩
  have j:∀ {ρ':Ren},ρr.le ρ'->(ρ'.F gu=false/\ρ'.F mi=false)/\(ρ'.loose=true/\ρ'.wide=true)/\ρ'.ch D.cr:=fun l=>⟨by rw [l.F];exact Sr.calm,by rw [l.loose,l.wide];exact Sr.loose,by rw [l.ch];exact Sr.ch⟩
  have B:∀ {ρ':Ren} {u u':Wz},Reach ρ ρ' (V.on W.tape d) (W.at d) u u'->∃n b s q tm,u.heap[D.cV]?=some (.chan n b true s q tm)/\b.toList=L:=fun R=>by
    obtain ⟨n,b,s,q,tm,h1,h2⟩:=S.row;rcases R.chs.row D.cV D.c S.ch S.pair with ⟨k,-⟩|⟨k,-⟩
    . exact ⟨n,b,s,q,tm,k.trans h1,h2⟩
    . rw [S.calm.1] at k;cases k
  have i:∀ {ρ':Ren} {u u':Wz},Reach ρ ρ' (V.on W.tape d) (W.at d) u u'->(∀a b o,ρ' a b->u.heap[a]?=some o->o.isChan=true->ρ'.ch a)/\∀a b,ρ'.ch a->ρ' a b->a≠D.cV->∃n s q tm n' s' q',u.heap[a]?=some (.chan n #[] true s q tm)/\u'.heap[b]?=some (.chan n' #[] true s' q' tm):=fun R1=>by
    refine ⟨fun a b o H ho hc=>?_,fun a b hch H hne=>?_⟩
    . rw [R1.le.ch]
      rcases R1.chs.only S.calm.2 a o ho hc with k|⟨k,-⟩
      . rcases R1.new a b H with k2|⟨k2,-⟩
        . exact R.all a b o k2 k hc
        . have:a<V.heap.size:=(eS k).1
          exact absurd k2 (by show ¬V.heap.size<=a;omega)
      . rw [S.calm.1] at k;cases k
    . rw [R1.le.ch] at hch
      rcases R1.new a b H with k2|⟨k2,-⟩
      . obtain ⟨n,s,q,tm,n',s',q',e1,e2⟩:=R.rest a b hch k2 hne
        rcases R1.chs.row a b hch k2 with ⟨k,U⟩|⟨k,-⟩
        . exact ⟨n,s,q,tm,n',s',q',k.trans e1,U.trans e2⟩
        . rw [S.calm.1] at k;cases k
      . obtain ⟨o,e1,-⟩:=S.sim.chan a hch
        have:a<V.heap.size:=(eS e1).1;exact absurd k2 (by show ¬V.heap.size<=a;omega)
  have A:∀ {ρ':Ren} {u u':Wz},Reach ρr ρ' (Vr.on W.tape d) (W.at d) u u'->(∃n b s q tm,u.heap[D.cr]?=some (.chan n b true s q tm)/\b.toList=L)/\u'.heap[D.c]?=W.heap[D.c]?/\∀ (a:Nat) o,u.heap[a]?=some o->o.isChan=true->a=D.cr:=fun R1=>by
    obtain ⟨n,b,s,q,tm,h1,h2⟩:=Sr.row;refine ⟨?_,?_,fun a o ho hc=>?_⟩
    . rcases R1.chs.row D.cr D.c Sr.ch Sr.pair with ⟨k,-⟩|⟨k,-⟩
      . exact ⟨n,b,s,q,tm,k.trans h1,h2⟩
      . rw [Sr.calm.1] at k;cases k
    . rcases R1.chs.row D.cr D.c Sr.ch Sr.pair with ⟨-,k⟩|⟨k,-⟩
      . exact k
      . rw [Sr.calm.1] at k;cases k
    . rcases R1.chs.only Sr.calm.2 a o ho hc with k|⟨k,-⟩
      . exact R.only a o k hc
      . rw [Sr.calm.1] at k;cases k
  cases T with
  | @go _ _ ab er hr2 hd2=>
    rw [er] at p;generalize hy:stepG P true g (W.at d)=y at p sv;cases p with
    | @go _ g1 _ W1 _ es ρr' R1 hg1 he1=>
      cases hl with
      | @go _ _ af C hrv hdv=>
        rw [C] at sv;cases sv with
        |go _ ρ' R2 hg2 he2=>
          obtain ⟨k1,U,k4⟩:=m R2.le;obtain ⟨m1,m3,m4⟩:=j R1.le;obtain ⟨r1,r2,Y⟩:=A R1;exact ⟨g1,W1,es,ρ',ρr',⟨R2.le,R1.le,fun a b h=>(R2.new a b h).imp id (·.2),fun a b h=>(R1.new a b h).imp id (·.2),⟨R1.keep.os,R1.keep.output,R1.keep.tape,R1.keep.size,R1.keep.block⟩,r2,he1⟩,.inl ⟨rfl,
            ⟨⟨hg2,R2.sim,S.gid.mono R2.le,by rw [R2.le.F];exact S.ext,k1,U,k4,R2.le _ _ S.pair,B R2⟩,⟨hg1,R1.sim,Sr.gid.mono R1.le,by rw [R1.le.F];exact Sr.ext,m1,m3,m4,R1.le _ _ Sr.pair,r1⟩,Y,(by rw [R1.le.ch];exact R.chR),(by rw [R1.le.F];exact R.unmk),⟨fun a b k=>R2.le _ _ (R.base.1 a b k),R2.le.F.trans R.base.2⟩,(i R2).1,(i R2).2⟩⟩⟩
      |comm C _=>
        rw [C] at sv;cases sv
  | @comm G r s Vr1 ab _ _ er J=>
    rw [er] at p;generalize hy:stepG P true g (W.at d)=y at p sv;cases p with
    | @comm _ g1 _ c' hC _ hsh hrun _ W1 _ es ρr' R1 hg1 hcc1 he1 ha1=>
      cases hl with
      |go C _ _=>rw [C] at sv;cases sv
      | @comm h1 cc sv' V1 af _ _ C hcv=>
        rw [C] at sv;cases sv with
        |comm hC2 _ hsh2 hrun2 _ ρ' R2 hg2 hcc2 he2 ha2=>
          obtain ⟨k1,U,k4⟩:=m R2.le;obtain ⟨m1,m3,m4⟩:=j R1.le;obtain ⟨r1,r2,Y⟩:=A R1;have t:r.send=none:=by
            cases hx:r.send with
            |none=>rfl
            |some v=>have:=hC.1 (by rw [hx];rfl);rw [Sr.calm.1] at this;cases this
          have Q:c'.send=none:=by
            rcases hcc1.send with ⟨-,k⟩|⟨v,_,k,-⟩
            . exact k
            . rw [t] at k;cases k
          have I:r.chan=.chan (some D.cr):=by
            cases J with
            |send q1 q2 q3 q4=>rw [t] at q2;cases q2
            |dead q1 q2 q3=>rw [t] at q2;cases q2
            |recv q1 q2 q3 q4=>rw [q1,Y _ _ q3 rfl]
            |shut q1 q2 q3=>rw [q1,Y _ _ q3 rfl]
          have hc':c'=rcase D.c c'.zero:=by
            refine wI ?_ Q;have:=hcc1.chan;rw [I] at this;generalize c'.chan=x at this;cases this with
            |chan k=>cases k with
              |some k=>rw [ρr'.fn _ _ _ k (R1.le _ _ Sr.pair)]
          have N:∃ok,s=.recv ok:=by
            rcases hsh with ⟨k,-⟩|⟨-,k⟩
            . rw [t] at k;cases k
            . exact k
          refine ⟨g1,W1,es,ρ',ρr',⟨R2.le,R1.le,fun a b h=>(R2.new a b h).imp id (·.2),fun a b h=>(R1.new a b h).imp id (·.2),⟨R1.keep.os,R1.keep.output,R1.keep.tape,R1.keep.size,R1.keep.block⟩,r2,he1⟩,.inr ⟨h1,G,V1,Vr1,c'.zero,s,by rw [<-hc'],
            ⟨⟨⟨hg2,R2.sim,S.gid.mono R2.le,by rw [R2.le.F];exact S.ext,k1,U,k4,R2.le _ _ S.pair,B R2⟩,⟨hg1,R1.sim,Sr.gid.mono R1.le,by rw [R1.le.F];exact Sr.ext,m1,m3,m4,R1.le _ _ Sr.pair,r1⟩,Y,(by rw [R1.le.ch];exact R.chR),(by rw [R1.le.F];exact R.unmk),⟨fun a b k=>R2.le _ _ (R.base.1 a b k),R2.le.F.trans R.base.2⟩,(i R2).1,(i R2).2⟩,N,by rw [<-hc'];exact ha1.2.2,⟨cc,by rw [<-hc'];exact hcc2,hcv⟩,⟨r,by rw [<-hc'];exact hcc1,J⟩⟩⟩⟩
structure j9 (ρs ρs':Ren)(W W1:Wz)(c:Nat)(es:Array Event):Prop where
 le:ρs.le ρs'
 new:∀a b,ρs' a b->ρs a b\/W.heap.size<=b
 keep:Keep ρs W W1
 row:W1.heap[c]?=W.heap[c]?
 ev:∀e∈es,i6 ρs' e
theorem CT (O:wJ P D Post){ρs:Ren}{hs s:Wj}{Vs:Wz}(S:Snd P ([trap P.alt],D.Bs) ρs hs s Vs W D.cs D.c L)(J:NB [trap P.alt] hs)(d:Nat){j:Wj}{Vs':Wz}(hl:LS P.alt hs (Vs.on W.tape d) j Vs')(A:∀n b cl s q tm,Vs'.heap[D.cs]?=some (.chan n b cl s q tm)->cl=false):
    ∃s1 W1 es ρs',j9 ρs ρs' W W1 D.c es /\
      ((stepG P false s (W.at d)=.go s1 W1 es/\Snd P ([trap P.alt],D.Bs) ρs' j s1 Vs' W1 D.cs D.c L) \/
       (∃h1 V1 cc v z,stepG P false s (W.at d)=.comm s1 #[scase D.c v z] true .send W1 es/\Snd P ([trap P.alt],D.Bs) ρs' h1 s1 V1 W1 D.cs D.c L/\RC ρs' cc (scase D.c v z)/\LC P.alt h1 cc .send V1 j Vs') \/
       (∃r v z n b s' q tm,stepG P false s (W.at d)=.comm s1 #[scase r v z] true .send W1 es/\W1.heap[r]?=some (.chan n b true s' q tm)/\Snd P ([trap P.alt],D.Bs) ρs' j {s1 with frame:=s1.frame.raise (j8 P)} Vs' W1 D.cs D.c L)):=by
  have hb:Base ([trap P.alt],D.Bs) hs.frame s.callers:=fun e=>J (S.go.callers.tail e)
  have hne:hs.callers≠[]:=fun e=>by
    have:=S.go.callers.len1;rw [e] at this;simp at this
  obtain ⟨-,B⟩:=m7 O.zero O.count false S.go hb S.sim S.gid S.ext S.unmk d (yB _ _ hne _).symm hl;have o:∀ {ρ':Ren},ρs.le ρ'->(ρ'.F Gr=false/\ρ'.F mi=false)/\(∀f,¬Mk ρ'.F f=true)/\(ρ'.loose=true/\ρ'.wide=false)/\∀x,ρ'.ch x↔x=D.cs:=fun l=>⟨by rw [l.F];exact S.calm,by rw [l.F];exact S.unmk,by rw [l.loose,l.wide];exact S.loose,by rw [l.ch];exact S.ch⟩
  have p:∀ {ρ':Ren} {u u':Wz},Reach ρs ρ' (Vs.on W.tape d) (W.at d) u u'->(∀n b s q tm,u.heap[D.cs]?=some (.chan n b true s q tm)->False)->(∃n b s q tm,u.heap[D.cs]?=some (.chan n b false s q tm)/\b.toList=L)/\u'.heap[D.c]?=W.heap[D.c]?/\∀ (a n:Nat) b s q tm,u.heap[a]?=some (.chan n b false s q tm)->a=D.cs:=fun R1 hno=>by
    obtain ⟨n,b,s,q,tm,h1,h2⟩:=S.row;have key:=R1.chs.row D.cs D.c ((S.ch _).2 rfl) S.pair;refine ⟨?_,?_,fun a n b s q tm ho=>?_⟩
    . rcases key with ⟨k,-⟩|⟨-,_,_,_,_,_,k⟩
      . exact ⟨n,b,s,q,tm,k.trans h1,h2⟩
      . exact (hno _ _ _ _ _ k).elim
    . rcases key with ⟨-,k⟩|⟨-,_,_,_,_,_,k⟩
      . exact k
      . exact (hno _ _ _ _ _ k).elim
    . rcases R1.chs.only S.calm.2 a _ ho rfl with k|⟨-,_,_,_,_,_,k⟩
      . exact S.only a n b s q tm k
      . rw [ho] at k;cases k
  cases hl with
  | @go _ _ I M hr2 hd2=>
    rw [M] at B;generalize hy:stepG P false s (W.at d)=y at B;cases B with
    | @go _ g1 _ W1 _ es ρ' R1 hg1 he1=>
      obtain ⟨m1,m2,m3,H⟩:=o R1.le;obtain ⟨r1,r2,E⟩:=p R1 (fun n b s q tm k=>by cases A _ _ _ _ _ _ k);exact ⟨g1,W1,es,ρ',⟨R1.le,fun a b h=>(R1.new a b h).imp id (·.2),⟨R1.keep.os,R1.keep.output,R1.keep.tape,R1.keep.size,R1.keep.block⟩,r2,he1⟩,.inl ⟨rfl,⟨hg1,R1.sim,S.gid.mono R1.le,by rw [R1.le.F];exact S.ext,m1,m2,m3,H,R1.le _ _ S.pair,r1,E⟩⟩⟩
  | @comm h1 cc sh V1 I _ _ M t=>
    rw [M] at B;generalize hy:stepG P false s (W.at d)=y at B;cases B with
    | @comm _ g1 _ c' hC _ hsh hrun _ W1 _ es ρ' R1 hg1 hcc1 he1 ha1=>
      obtain ⟨m1,m2,m3,H⟩:=o R1.le;have m:cc.send≠none:=fun k=>by have:=hC.2 k;rw [S.calm.1] at this;cases this
      have hno:∀n b s q tm,V1.heap[D.cs]?=some (.chan n b true s q tm)->False:=fun n b s q tm k=>by
        cases t with
        |recv q1 q2 q3 q4=>exact m q2
        |shut q1 q2 q3=>exact m q2
        |dead q1 q2 q3=>cases A _ _ _ _ _ _ k
        | @send r cap sent rcvd buf tm0 v0 q1 q2 q3 q4=>
          by_cases e:r=D.cs
          . subst e;rw [k] at q3;cases q3
          . cases A n b true s q tm (by simpa [e] using k)
      obtain ⟨r1,r2,E⟩:=p R1 hno;have G:sh=.send:=by
        rcases hsh with ⟨-,k⟩|⟨k,-⟩
        . exact k
        . exact absurd k m
      subst G;obtain ⟨v,hv⟩:∃v,c'.send=some v:=by
        rcases hcc1.send with ⟨k,-⟩|⟨_,v,-,k,-⟩
        . exact absurd k m
        . exact ⟨v,k⟩
      have N:j9 ρs ρ' W W1 D.c es:=⟨R1.le,fun a b h=>(R1.new a b h).imp id (·.2),⟨R1.keep.os,R1.keep.output,R1.keep.tape,R1.keep.size,R1.keep.block⟩,r2,he1⟩;have K:(∃h' V',j=h'/\Vs'=V'/\cc.chan=.chan (some D.cs))\/(Vs'=V1/\j={h1 with frame:=h1.frame.raise (j8 P)}/\∃r n b s q tm,cc.chan=.chan (some r)/\V1.heap[r]?=some (.chan n b true s q tm)):=by
        cases t with
        |recv q1 q2 q3 q4=>exact absurd q2 m
        |shut q1 q2 q3=>exact absurd q2 m
        |send q1 q2 q3 q4=>exact .inl ⟨_,_,rfl,rfl,by rw [q1,E _ _ _ _ _ _ q3]⟩
        |dead q1 q2 q3=>exact .inr ⟨rfl,rfl,_,_,_,_,_,_,q1,q3⟩
      rcases K with ⟨_,_,-,-,i⟩|⟨rfl,rfl,r,n,b,s',q,tm,i,C⟩
      rotate_left
      . obtain ⟨r',cap',buf',cl',s'',q'',c1,c2,c3,-,c5,-⟩:=qE R1.sim hcc1 i C
        obtain rfl:=c5.resolve_left (by rw [m3.2];exact fun h=>by cases h);have hc':c'=scase r' v c'.zero:=by
          obtain ⟨a,b,z⟩:=c';simp only at c1 hv;subst c1;subst hv;rfl
        refine ⟨g1,W1,es,ρ',N,.inr (.inr ⟨r',v,c'.zero,_,_,_,_,_,by rw [<-hc'],c3,⟨⟨hg1.frame.raise1 (.iface _ (.string _)),hg1.callers,hg1.kind.raise _ _,hg1.status,hg1.dying,hg1.offers⟩,R1.sim,S.gid.mono R1.le,by rw [R1.le.F];exact S.ext,m1,m2,m3,H,R1.le _ _ S.pair,r1,E⟩⟩)⟩
      have hc':c'=scase D.c v c'.zero:=by
        have hch:c'.chan=.chan (some D.c):=by
          have:=hcc1.chan;rw [i] at this;generalize c'.chan=x at this;cases this with
          |chan k=>cases k with
            |some k=>rw [ρ'.fn _ _ _ k (R1.le _ _ S.pair)]
        obtain ⟨a,b,z⟩:=c';simp only at hch hv;subst hch;subst hv;rfl
      exact ⟨g1,W1,es,ρ',N,.inr (.inl ⟨h1,V1,cc,v,c'.zero,by rw [<-hc'],⟨hg1,R1.sim,S.gid.mono R1.le,by rw [R1.le.F];exact S.ext,m1,m2,m3,H,R1.le _ _ S.pair,r1,E⟩,by rw [<-hc'];exact hcc1,t⟩)⟩
end
end
section
open Go.Conc (crowd Past EvL Deaf QuitsD woken awake crowd_pick runT_crowd_go rcase scase parked ph)
open Go.ConcN (sumTo upd sumTo_upd upd_ne upd_same)
variable {P:Wx} [Two P] {D:PhD P} {Post:Wq->Wz->Prop}
theorem Moved.far {ρ ρ' ρr ρr' ρs:Ren}{W W1:Wz}{c:Nat}{es:Array Event}(m:Moved ρ ρ' ρr ρr' W W1 c es)(hF:Far ρr ρs)(a:∀y b,ρs y b->b<W.heap.size):Far ρr' ρs:=fun b x y h1 h2=>by
 rcases m.newr x b h1 with k|k
 .rw [m.ler.old,m.ler.ch];exact hF b x y k h2
 .have:=a y b h2;omega
theorem oP.at {ρ ρr:Ren}{W:Wz}{h hr g:Wj}{V Vr:Wz}{L:List Wq}(R:oP D ρ ρr W h hr g V Vr L)(d:Nat):oP D ρ ρr (W.at d) h hr g V Vr L:=⟨R.side.stays rfl (fun _ _ _ _=>rfl) rfl,R.sideR.stays rfl (fun _ _ _ _=>rfl) rfl,R.only,R.chR,R.unmk,R.base,R.all,R.rest⟩
omit [Two P] in
theorem iI {gs:Array Wj}{t:Trace}{q:Nat->Nat}(b:Lv P (fun _=>False) t gs q){x:Wj}(h0:gs[0]?=some x)(hr:x.status=.running):∀y∈gs,awake y:=fun y hy=>by
 obtain ⟨i,hi,rfl⟩:=Array.mem_iff_getElem.1 hy;rcases Nat.eq_zero_or_pos i with rfl|a
 .have:gs[0]=x:=by simpa [eG hi] using h0
  rw [this];exact Conc.awake_of (.inl hr)
 .exact Conc.awake_of ((b.old i _ a (fun k=>k) (eG hi)).status.elim .inl fun x=>.inr (.inr x))
theorem firm0 {gs:Array Wj}{x:Wj}(h0:gs[0]?=some x)(hr:x.status=.running)(w:Wz):∀j o,(j=0\/False)->gs[j]?=some o->o.again w=o:=fun j o a ho=>by
 rcases a with rfl|a
 .rw [h0] at ho;cases ho;exact Conc.again_running _ (.inl hr)
 .exact a.elim
theorem oP.run {ρ ρr:Ren}{W:Wz}{h hr g:Wj}{V Vr:Wz}{L:List Wq}(R:oP D ρ ρr W h hr g V Vr L):g.status=.running:=R.side.go.status.2
theorem sw (O:wJ P D Post){ρ ρr:Ren}{W:Wz}{h hr g:Wj}{V Vr:Wz}{L:List Wq}(R:oP D ρ ρr W h hr g V Vr L)(hd:Dem P.alt (fun g _=>NB [trap P.alt] g) D.T h V)(hp:LSs P.alt D.T D.h0 D.V0 h V)(d:Nat):
  ∃h' V',LS P.alt h (V.on W.tape d) h' V'/\Dem P.alt (fun g _=>NB [trap P.alt] g) D.T h' V'/\LSs P.alt D.T D.h0 D.V0 h' V':=by
 have b:¬D.T h V:=fun k=>by
  have h1:=O.leafT _ _ k;have h2:=R.side.go.callers.len1;have h3:=O.deep;omega
 cases hd with
 |stop k=>exact absurd k b
 |step _ _ a hn=>
  obtain ⟨h',V',hl⟩:=a W.tape d;exact ⟨h',V',hl,hn _ _ _ _ hl,hp.trans (.step b _ _ hl (.refl _ _))⟩
theorem Gt.take (O:wJ P D Post){ρ ρr:Ren}{W W':Wz}{h1 m g1 h hr:Wj}{V1 Vr1 V Vr:Wz}{v z:Wq}{L:List Wq}{sh:CommShape}(C:Gt D ρ ρr W h1 m g1 V1 Vr1 (v::L) z sh h hr V Vr)(hv:v∈D.L)(l:W'.os=W.os)(hs:∀b,b≠D.c->W'.heap[b]?=W.heap[b]?){n p:Nat}{b b':List Wq}{cl t:Bool}{s q s' q':Nat}{tm:Bool}(r1:kO W D.c n b cl s q tm)(r2:kO W' D.c p b' t s' q' tm):
  oP D ρ ρr W' h hr (g1.finishComm P #[rcase D.c z] sh 0 v true) V Vr L:=by
 obtain ⟨cc,c1,c2⟩:=C.rc;obtain ⟨cr,d1,d2⟩:=C.rcr;have i:∀ (a:Nat) (o:Obj),V.heap[a]?=some o->o.isChan=true->∃o1:Obj,V1.heap[a]?=some o1/\o1.isChan=true:=fun a o ho hc=>by
  cases c2 with
  |shut=>exact ⟨o,ho,hc⟩
  |dead=>exact ⟨o,ho,hc⟩
  | @send r _ _ _ _ _ _ k1 k2 j k4=>
   by_cases e:r=a
   .subst e;exact ⟨_,j,rfl⟩
   .exact ⟨o,by simpa [e] using ho,hc⟩
  | @recv r _ _ _ _ _ _ k1 k2 j k4=>
   by_cases e:r=a
   .subst e;exact ⟨_,j,rfl⟩
   .exact ⟨o,by simpa [e] using ho,hc⟩
 have f:∀a:Nat,a≠D.cV->V.heap[a]?=V1.heap[a]?:=fun a ha=>by
  obtain ⟨-,hch⟩:=C.at1.side.case_ c1;have hr:∀r,cc.chan=.chan (some r)->r≠a:=fun r e=>by
   rw [e] at hch;rcases hch with k|k
   .cases k;exact Ne.symm ha
   .cases k
  cases c2 with
  |shut=>rfl
  |dead=>rfl
  |send k1 k2 j k4=>simp [hr _ k1]
  |recv k1 k2 j k4=>simp [hr _ k1]
 refine ⟨C.at1.side.take c1 C.sh c2 (O.flat v hv) l hs r1 r2,C.at1.sideR.take d1 C.sh d2 (O.flat v hv) l hs r1 r2,d2.only C.at1.only,C.at1.chR,C.at1.unmk,C.at1.base,fun a b o d ho hc=>?_,fun a b hch d hne=>?_⟩
 .obtain ⟨o1,k1,k2⟩:=i a o ho hc;exact C.at1.all a b o1 d k1 k2
 .obtain ⟨n,s,q,tm,p,s',q',e1,e2⟩:=C.at1.rest a b hch d hne;refine ⟨n,s,q,tm,p,s',q',(f a hne).trans e1,?_⟩;rw [hs b (fun e=>hne (ρ.inj _ _ _ d (e▸C.at1.side.pair)))];exact e2
theorem aG (W:Wz)(c n:Nat)(b:Array Wq)(cl:Bool)(s q:Nat)(tm:Bool){j:Nat}(h:j≠c):(W.setChan c n b cl s q tm).heap[j]?=W.heap[j]?:=by
 unfold World.setChan;exact sN (Ne.symm h)
theorem dH (W:Wz)(c n:Nat)(b:Array Wq)(cl:Bool)(s q:Nat)(tm:Bool)(h:c<W.heap.size):kO (W.setChan c n b cl s q tm) c n b.toList cl s q tm:=⟨b,by unfold World.setChan;exact sS h,rfl⟩
theorem ce (W:Wz)(c n:Nat)(b:Array Wq)(cl:Bool)(s q:Nat)(tm:Bool):(W.setChan c n b cl s q tm).heap.size=W.heap.size:=by simp [World.setChan]
theorem iJ (g:Nat)(fn:FuncId)(pos:String):MemOp.ofEvents g fn pos #[]=#[]:=rfl
theorem wL {ρ ρr:Ren}{W:Wz}{h1 a g1 h:Wj}{V1 Vr1 V:Wz}{z:Wq}{sh:CommShape}{cc:CommCase}(R:oP D ρ ρr W h1 a g1 V1 Vr1 [])(f:RC ρ cc (rcase D.c z))(_hsh:∃ok,sh=.recv ok)(b:LC P.alt h1 cc sh V1 h V):AG D ρ V W:=by
 have i:V=V1:=by
  obtain ⟨e,hch⟩:=R.side.case_ f;obtain ⟨n0,b0,s0,q0,tm0,e1,e2⟩:=R.side.row;cases b with
  |send k1 k2 d k4=>rw [e] at k2;cases k2
  |dead=>rfl
  |shut=>rfl
  |recv k1 k2 d k4=>
   rw [k1] at hch;rcases hch with hch|hch
   .cases hch;rw [e1] at d;cases d;have:b0=#[]:=Array.toList_inj.1 (by simpa using e2);rw [this] at k4;simp at k4
   .cases hch
 rw [i];exact ⟨R.base,R.all,R.rest⟩
structure yC (D:PhD P)(ρ ρr:Ren)(W:Wz):Prop where
 kp:Kp D.U W
 off:Off D.U ρ
 offR:Off D.U ρr
 chan:¬D.U.Ko D.c
omit [Two P] in
theorem yC.rcv {D:PhD P}{ρ ρr ρ' ρr':Ren}{W W1:Wz}{es:Array Event}(h:yC D ρ ρr W)(m:Moved ρ ρ' ρr ρr' W W1 D.c es):yC D ρ' ρr' W1:=⟨h.kp.keep h.offR m.keep,h.off.new h.kp m.le.sub m.new ⟨m.le.pin,m.le.bad⟩,h.offR.new h.kp m.ler.sub m.newr ⟨m.ler.pin,m.ler.bad⟩,h.chan⟩
omit [Two P] in
theorem Kp.setChan {U:Outer}{W:Wz}{c:Nat}(h:Kp U W)(hc:¬U.Ko c)(n:Nat)(b:Array Wq)(cl:Bool)(s q:Nat)(tm:Bool):Kp U (W.setChan c n b cl s q tm):=⟨by rw [ce];exact h.1,h.2.1,fun x hx=>(aG (j:=x) _ _ _ _ _ _ _ _ (fun e=>hc (by rw [<-e];exact hx))).trans (h.2.2 x hx)⟩
omit [Two P] in
theorem yC.set {D:PhD P}{ρ ρr:Ren}{W:Wz}(h:yC D ρ ρr W)(n:Nat)(b:Array Wq)(cl:Bool)(s q:Nat)(tm:Bool):yC D ρ ρr (W.setChan D.c n b cl s q tm):=⟨h.kp.setChan h.chan _ _ _ _ _ _,h.off,h.offR,h.chan⟩
theorem ve (O:wJ P D Post){ρ ρr ρs:Ren}{h1 v g1 h hr:Wj}{V1 Vr1 V Vr:Wz}{z:Wq}{sh:CommShape}(hp:LSs P.alt D.T D.h0 D.V0 h V){n s q:Nat}{tm:Bool}{pc:Nat}:
  ∀ (M:Nat) (gs:Array Wj) (W:Wz) (sl:Option (Nat×Nat)) (t:Trace) (qs:Nat->Nat),sumTo gs.size qs<=M->Gt D ρ ρr W h1 v g1 V1 Vr1 [] z sh h hr V Vr->kO W D.c n [] true s q tm->yC D ρ ρr W->gs[0]?=some {parked g1 #[rcase D.c z] sh with status:=.running}->Lv P (fun _=>False) t gs qs->PhC D.c pc ρs W.heap.size t->Fin P Post gs W sl t:=by
 intro M;induction M using Nat.strongRecOn with
 |_ M ih=>
  intro gs W sl t qs hM C r e h0 p hP;obtain ⟨i,x,d,l,hi,hx,hst⟩:=crowd_pick (P:=P) (w:=W) (sl:=sl) (iI p h0 rfl) ⟨0,_,h0,rfl⟩;rcases Nat.eq_zero_or_pos i with rfl|o
  .rw [h0] at hi;cases hi;have m:stepG P (0==0) {parked g1 #[rcase D.c z] sh with status:=.running} (W.at d)=.comm g1 #[rcase D.c z] true sh (W.at d) #[]:=C.atc true (W.at d);obtain ⟨a,b,ha⟩:=r;have ha:a=#[]:=Array.toList_inj.1 (by simpa using ha);subst ha;have hrt:=Conc.crowd_recv_closed (sl:=l) (i:=0) h0 m b (p.alone D.c true);rw [iJ,Array.empty_append] at hrt;have hlt:D.c<W.heap.size:=(eS b).1;obtain ⟨cc,c1,c2⟩:=C.rc;have S:=((C.at1.at d).side).nothing c1 C.sh c2;exact Fin.next (hst.trans hrt) (O.fin ρ h _ V (W.at d) n s q tm _ _ _ qs S (wL (C.at1.at d) c1 C.sh c2) ⟨e.kp,e.off⟩ b hp (by simp [(eS h0).1])
    (p.put (fun op f=>by simp at f;subst f;exact ⟨by simp,by simp⟩) (by simp) (fun j hj _=>sN (by omega)))
    (hP.done ⟨rfl,rfl⟩ hlt))
  .obtain ⟨u,q',ops,e1,e2,e3,e4,e5,e6,-⟩:=slip p hP (fun t i fn pos es hi _ h hm=>h.mute hi hm) hi hx o (fun k=>k) (firm0 h0 rfl _) hst;exact Fin.next e1 (ih _ (by omega) u (W.at d) l (t++ops) q' (lR _) ⟨C.at1.at d,C.sh,C.atc,C.rc,C.rcr⟩ r ⟨e.kp,e.off,e.offR,e.chan⟩ ((e3 0 (.inl rfl)).trans h0) e4 e5)
def fv (P:Wx) [Two P](D:PhD P)(Post:Wq->Wz->Prop)(hr:Wj)(Vr:Wz):Prop:=
 ∀ (gs:Array Wj) (W:Wz) (sl:Option (Nat×Nat)) (t:Trace) (qs:Nat->Nat) (ρ ρr ρs:Ren) (h g:Wj) (V:Wz) (L:List Wq) (n s q:Nat) (tm:Bool) (pc:Nat),oP D ρ ρr W h hr g V Vr L->Dem P.alt (fun g _=>NB [trap P.alt] g) D.T h V->LSs P.alt D.T D.h0 D.V0 h V->(∀v∈L,v∈D.L)->kO W D.c n L true s q tm->Far ρr ρs->yC D ρ ρr W->(∀y b,ρs y b->b<W.heap.size)->gs[0]?=some g->Lv P (fun _=>False) t gs qs->PhC D.c pc ρs W.heap.size t->Fin P Post gs W sl t
theorem po (O:wJ P D Post){hr:Wj}{Vr:Wz}(S:NB [trap P.alt] hr)(hls:∀τ d,∃l Vr',LS P.alt hr (Vr.on τ d) l Vr')
  (hn:∀τ d l Vr',LS P.alt hr (Vr.on τ d) l Vr'->fv P D Post l Vr'\/((∀n b s q tm,Vr.heap[D.cr]?=some (.chan n b true s q tm)->b.toList=[])/\∃h1 cc s V1 es,stepG P.alt true hr (Vr.on τ d)=.comm h1 cc true s V1 es)):fv P D Post hr Vr:=by
 intro gs W sl t qs ρ ρr ρs h g V L n s q tm pc R hd hp B r hF A U h0 I hP;obtain ⟨M,hM⟩:∃M,sumTo gs.size qs<=M:=⟨_,lR _⟩;induction M using Nat.strongRecOn generalizing gs W sl t qs with
 |_ M ih=>
  obtain ⟨i,x,d,p,hi,hx,hst⟩:=crowd_pick (P:=P) (w:=W) (sl:=sl) (iI I h0 R.run) ⟨0,_,h0,R.run⟩;rcases Nat.eq_zero_or_pos i with rfl|Q
  .obtain rfl:x=g:=by rw [h0] at hi;exact (oJ hi).symm
   obtain ⟨h',V',hl,N,J⟩:=sw O R hd hp d;obtain ⟨l,Vr',E⟩:=hls W.tape d;have hnx:=hn _ _ _ _ E;obtain ⟨g1,W1,es,ρ',ρr',m,G⟩:=wK O R S d hl E;have hF':=m.far hF U;have hsz:W.heap.size<=W1.heap.size:=m.keep.size;have r1:kO W1 D.c n L true s q tm:=by
    obtain ⟨a,k1,k2⟩:=r;exact ⟨a,m.row.trans k1,k2⟩
   rcases G with ⟨hg,R'⟩|⟨h1,hr1,V1,Vr1,z,sh,hg,C⟩
   .have hC:fv P D Post l Vr':=by
     rcases hnx with k|⟨-,_,_,_,_,_,k⟩
     .exact k
     .exfalso;have Y:Base ([trap P.alt],D.X.2) hr.frame x.callers:=fun e=>S (R.sideR.go.callers.tail e)
      obtain ⟨-,sr⟩:=m7 O.zero O.count true R.sideR.go Y R.sideR.sim R.sideR.gid R.sideR.ext R.unmk.1 d rfl E;rw [k,hg] at sr;cases sr
    obtain ⟨H,ops,e1,e2,e3,e4,-,e6⟩:=qD I hi (.inl rfl) hst (show stepG P (0==0) x (W.at d)=_ from hg);subst e2;exact Fin.next e1 (hC H W1 p _ qs ρ' ρr' ρs h' g1 V' L n s q tm pc R' N J B r1 hF' (A.rcv m) (fun y b k=>lL (U y b k) hsz) e4 e6 (hP.app hF' hsz (j7 R'.sideR.sim m.ev 0 _ _)))
   .obtain ⟨a,ha1,o⟩:=r1;have hlt:D.c<W1.heap.size:=(eS ha1).1;have hev:=j7 C.at1.sideR.sim m.ev 0 x.frame.fn x.frame.place;cases L with
    |nil=>
     have ha:a=#[]:=Array.toList_inj.1 (by simpa using o);subst ha;have hrt:=Conc.crowd_recv_closed (sl:=p) (i:=0) h0 (show stepG P (0==0) x (W.at d)=_ from hg) ha1 (I.alone D.c true);obtain ⟨cc,c1,c2⟩:=C.rc;refine Fin.next (hst.trans hrt) (O.fin ρ' h' _ V' W1 n s q tm _ _ _ qs (C.at1.side.nothing c1 C.sh c2) (wL C.at1 c1 C.sh c2) ⟨(A.rcv m).kp,(A.rcv m).off⟩ ha1 J (by simp [(eS h0).1]) (I.put (fun u f=>?_) (by simp) (fun j hj _=>sN (by omega))) ?_)
     .rcases Array.mem_append.1 f with k|k
      .exact (hev u k).2.2.1
      .simp at k;subst k;exact ⟨by simp,by simp⟩
     .rw [<-Array.append_assoc];exact (hP.app hF' hsz hev).done ⟨rfl,rfl⟩ hlt
    |cons v L=>
     have hC:fv P D Post l Vr':=by
      rcases hnx with k|⟨k,-⟩
      .exact k
      .exfalso;obtain ⟨n0,b0,s0,q0,tm0,k1,k2⟩:=R.sideR.row;rw [k _ _ _ _ _ k1] at k2;cases k2
     have F:0<a.size:=by rw [<-lY,o];simp
     have T:a.getD 0 Wy=v:=by rw [gD,<-gT,o];rfl
     have K:(a.extract 1 a.size).toList=L:=by
      have hl:a.toList.length=a.size:=lY;rw [Array.toList_extract,o] at *;simp at hl ⊢;rw [<-hl];simp
     have hrt:=Conc.crowd_recv_buf (sl:=p) (i:=0) h0 (show stepG P (0==0) x (W.at d)=_ from hg) ha1 F (I.alone D.c true);rw [T] at hrt;have r2:=dH W1 D.c n (a.extract 1 a.size) true s (q+1) tm hlt;rw [K] at r2;have R2:=C.take O (B v (by simp)) (W':=W1.setChan D.c n (a.extract 1 a.size) true s (q+1) tm) rfl (fun b hb=>aG _ _ _ _ _ _ _ _ hb) ⟨a,ha1,o⟩ r2;have Z:∀u∈(#[{g:=0,fn:=g1.frame.fn,pos:=g1.frame.place,act:=.recv D.c q n},{g:=0,fn:=g1.frame.fn,pos:=g1.frame.place,act:=.recvDone D.c q}]:Trace),u.g=0/\de W1.heap.size u.act:=fun u f=>by
      simp at f;rcases f with rfl|rfl<;>exact ⟨rfl,hlt⟩
     refine Fin.next (hst.trans hrt) (hC _ _ p _ qs ρ' ρr' ρs h' _ V' L n s (q+1) tm pc R2 N J (fun v hv=>B v (by simp [hv])) r2 hF' ((A.rcv m).set _ _ _ _ _ _) (fun y b k=>by rw [ce];exact lL (U y b k) hsz) (by simp [(eS h0).1]) (I.put (fun u f=>?_) (by simp) (fun j hj _=>sN (by omega))) ?_)
     .rcases Array.mem_append.1 f with k|k
      .exact (hev u k).2.2.1
      .exact (Z u k).2.still
     .rw [<-Array.append_assoc,ce];exact (hP.app hF' hsz hev).app hF' (lR _) (fun u f=>⟨(Z u f).1,vd (Z u f).2⟩)
  .obtain ⟨H,q',ops,e1,e2,e3,e4,e5,e6,-⟩:=slip I hP (fun t i fn pos es hi _ h hm=>h.mute hi hm) hi hx Q (fun k=>k) (firm0 h0 R.run _) hst;exact Fin.next e1 (ih _ (by omega) H (W.at d) p (t++ops) q' (R.at d) r ⟨A.kp,A.off,A.offR,A.chan⟩ U ((e3 0 (.inl rfl)).trans h0) e4 e5 (lR _))
theorem sB (O:wJ P D Post){hr:Wj}{Vr:Wz}(hD:Dem P.alt D.Nr D.Tr hr Vr):fv P D Post hr Vr:=by
 induction hD with
 | @stop g w c=>
  obtain ⟨h1,h2,h3⟩:=O.tr g w c;refine po O h1 (fun τ d=>?_) (fun τ d a Vr' _=>.inr ⟨h2,?_⟩)
  .obtain ⟨_,_,_,_,_,h',V',e,l⟩:=h3 τ d;exact ⟨h',V',.comm e l⟩
  .obtain ⟨_,_,_,_,_,h',V',e,l⟩:=h3 τ d;exact ⟨_,_,_,_,_,e⟩
 | @step g w f c b _ ih=>exact po O (O.nr g w f) b (fun τ d a Vr' hl=>.inl (ih τ d a Vr' hl))
def Alone (P:Wx)(bo:Nat)(g:Wj):Nat->Wj->Wz->Prop:=
 Go.Conc.Goes P true (fun w v=>v.heap[bo]?=w.heap[bo]?) (fun w w' es=>w'=w/\∀e∈es,∃a:Ww,e=⟨.cell a,false,false⟩/\a.block=bo) (fun g' _=>g'=g)
section
variable {bo k:Nat} {g y:Wj} {W W1:Wz}
omit [Two P] in
theorem Alone.rely (h:Alone P bo g k y W)(hb:W1.heap[bo]?=W.heap[bo]?):Alone P bo g k y W1:=
 Go.Conc.Goes.rely (fun _ _ _ h k=>k.trans h) h hb
omit [Two P] in
theorem Alone.next (h:Alone P bo g k y W):y=g\/(y.status=.running/\∃k',k=k'+1/\∀d,∃b es,stepG P true y (W.at d)=.go b (W.at d) es/\(∀e∈es,∃a:Ww,e=⟨.cell a,false,false⟩/\a.block=bo)/\Alone P bo g k' b (W.at d)):=by
 cases k with
 |zero=>exact .inl (h W rfl)
 |succ k=>
  rcases h with h|⟨hst,h⟩
  .exact .inl (h W rfl)
  .refine .inr ⟨hst,k,rfl,fun d=>?_⟩;obtain ⟨b,w',es,h1,⟨rfl,h2⟩,h3⟩:=Go.Conc.goes_elim (h (W.at d) rfl);exact ⟨b,es,h1,h2,h3⟩
omit [Two P] in
theorem Alone.status (h:Alone P bo g k y W)(hg:g.status=.running):y.status=.running:=by
 rcases h.next with rfl|⟨h,-⟩
 .exact hg
 .exact h
theorem wM {ρr:Ren}(b:∃x,ρr x bo/\¬ρr.ch x){es:Array Event}(h:∀e∈es,∃a:Ww,e=⟨.cell a,false,false⟩/\a.block=bo):∀e∈es,i6 ρr e:=fun e he=>by
 obtain ⟨a,rfl,rfl⟩:=h e he;obtain ⟨x,h1,h2⟩:=b;exact ⟨x,h1,(fun h=>by cases h),h2⟩
end
theorem yD {hr:Wj}{Vr:Wz}(C:fv P D Post hr Vr){ρ ρr ρs:Ren}{h g:Wj}{V:Wz}{L:List Wq}{n s q:Nat}{tm:Bool}{pc:Nat}(hd:Dem P.alt (fun g _=>NB [trap P.alt] g) D.T h V)(hp:LSs P.alt D.T D.h0 D.V0 h V)(u:∀v∈L,v∈D.L)(hF:Far ρr ρs)(B:∃x,ρr x D.bo/\¬ρr.ch x):
  ∀ (k:Nat) (gs:Array Wj) (W:Wz) (sl:Option (Nat×Nat)) (t:Trace) (qs:Nat->Nat) (y:Wj),oP D ρ ρr W h hr g V Vr L->Alone P D.bo g k y W->kO W D.c n L true s q tm->yC D ρ ρr W->(∀y b,ρs y b->b<W.heap.size)->gs[0]?=some y->Lv P (fun _=>False) t gs qs->PhC D.c pc ρs W.heap.size t->Fin P Post gs W sl t:=by
 intro k;induction k with
 |zero=>
  intro gs W sl t qs y R hy r f p h0 l hP;rcases hy.next with rfl|⟨-,k',e,-⟩
  .exact C gs W sl t qs ρ ρr ρs h y V L n s q tm pc R hd hp u r hF f p h0 l hP
  .cases e
 |succ k A=>
  intro gs W sl t qs y R hy r f p h0 l hP;obtain ⟨M,hM⟩:∃M,sumTo gs.size qs<=M:=⟨_,lR _⟩;induction M using Nat.strongRecOn generalizing gs W sl t qs with
  |_ M ih=>
   rcases hy.next with rfl|⟨a,k',e,hnx⟩
   .exact C gs W sl t qs ρ ρr ρs h y V L n s q tm pc R hd hp u r hF f p h0 l hP
   .cases e;obtain ⟨i,x,d,m,hi,hx,hst⟩:=crowd_pick (P:=P) (w:=W) (sl:=sl) (iI l h0 a) ⟨0,_,h0,a⟩;rcases Nat.eq_zero_or_pos i with rfl|o
    .obtain rfl:x=y:=by rw [h0] at hi;exact (oJ hi).symm
     obtain ⟨E,es,hg,hev,z⟩:=hnx d;obtain ⟨j,ops,e1,e2,e3,e4,-,e6⟩:=qD l hi (.inl rfl) hst (show stepG P (0==0) x (W.at d)=_ from hg);subst e2;exact Fin.next e1 (A j (W.at d) m _ qs E (R.at d) z r ⟨f.kp,f.off,f.offR,f.chan⟩ p e4 e6 (hP.app hF (lR _) (j7 (R.at d).sideR.sim (wM B hev) 0 _ _)))
    .obtain ⟨j,q',ops,e1,e2,e3,e4,e5,e6,-⟩:=slip l hP (fun t i fn pos es hi _ h hm=>h.mute hi hm) hi hx o (fun k=>k) (firm0 h0 a _) hst;exact Fin.next e1 (ih _ (by omega) j (W.at d) m (t++ops) q' (R.at d) (hy.rely rfl) r ⟨f.kp,f.off,f.offR,f.chan⟩ p ((e3 0 (.inl rfl)).trans h0) e4 e5 (lR _))
end
section
open Go.Conc (crowd Past EvL Deaf QuitsD woken awake crowd_pick runT_crowd_go rcase scase parked ph)
open Go.ConcN (sumTo upd sumTo_upd upd_ne upd_same)
variable {P:Wx} [Two P] {D:PhD P} {Post:Wq->Wz->Prop}
def Half (ρ ρs:Ren):Prop:=∀b x y,ρ x b->ρs y b->ρs.old y\/ρs.ch y
inductive jI (D:PhD P)(ρ ρr:Ren)(W:Wz)(buf:List Wq)(hr:Wj)(Vr:Wz):Wj->List Wq->Nat->Prop
 |run {h g:Wj} {V:Wz} {L:List Wq} (R:oP D ρ ρr W h hr g V Vr L) (hd:Dem P.alt (fun g _=>NB [trap P.alt] g) D.T h V) (hp:LSs P.alt D.T D.h0 D.V0 h V):jI D ρ ρr W buf hr Vr g L 1
 |park {h1 hr1 g1 h:Wj} {V1 Vr1 V:Wz} {v z:Wq} {L:List Wq} {sh:CommShape} (C:Gt D ρ ρr W h1 hr1 g1 V1 Vr1 (v::L) z sh h hr V Vr) (hb:buf=[]) (hd:Dem P.alt (fun g _=>NB [trap P.alt] g) D.T h V) (hp:LSs P.alt D.T D.h0 D.V0 h V):jI D ρ ρr W buf hr Vr (parked g1 #[rcase D.c z] sh) (v::L) 0
 |last {h1 hr1 g1 h hr':Wj} {V1 Vr1 V Vr':Wz} {z:Wq} {sh:CommShape} (C:Gt D ρ ρr W h1 hr1 g1 V1 Vr1 [] z sh h hr' V Vr') (hb:buf=[]) (hp:LSs P.alt D.T D.h0 D.V0 h V):jI D ρ ρr W buf hr Vr (parked g1 #[rcase D.c z] sh) [] 0
 |pre {h g y:Wj} {V:Wz} {L:List Wq} (k:Nat) (R:oP D ρ ρr W h hr g V Vr L) (hd:Dem P.alt (fun g _=>NB [trap P.alt] g) D.T h V) (hp:LSs P.alt D.T D.h0 D.V0 h V) (hbo:(∃x,ρr x D.bo/\¬ρr.ch x)/\D.bo≠D.c) (hy:Alone P D.bo g k y W):jI D ρ ρr W buf hr Vr y L (k+2)
inductive gy (D:PhD P)(ρs:Ren)(W:Wz)(n:Nat)(buf:List Wq)(hs:Wj)(Vs:Wz):Wj->List Wq->Nat->Prop
 |run {s:Wj} {L:List Wq} (S:Snd P ([trap P.alt],D.Bs) ρs hs s Vs W D.cs D.c L):gy D ρs W n buf hs Vs s L 1
 |new {y s:Wj} {L:List Wq} (S:Snd P ([trap P.alt],D.Bs) ρs hs s Vs W D.cs D.c L) (hy:∀v,stepG P false y v=.go s v #[]) (hst:y.status=.running):gy D ρs W n buf hs Vs y L 2
 |park {h1 s1:Wj} {V1:Wz} {L:List Wq} {cc:CommCase} {v z:Wq} (S:Snd P ([trap P.alt],D.Bs) ρs h1 s1 V1 W D.cs D.c L) (rc:RC ρs cc (scase D.c v z)) (lc:LC P.alt h1 cc .send V1 hs Vs) (hf:n<=buf.length):gy D ρs W n buf hs Vs (parked s1 #[scase D.c v z] .send) L 0
section
variable {ρ ρr ρs ρ' ρr' ρs':Ren} {W W1:Wz} {n:Nat} {buf:List Wq} {hr hs x:Wj} {Vr Vs:Wz} {L:List Wq} {f:Nat} {es:Array Event}
theorem oP.stays {h g:Wj}{V:Wz}(R:oP D ρ ρr W h hr g V Vr L)(f:W1.os=W.os)(h1:∀x b,ρ x b->b≠D.c->W1.heap[b]?=W.heap[b]?)(h2:∀x b,ρr x b->b≠D.c->W1.heap[b]?=W.heap[b]?)(hc:W1.heap[D.c]?=W.heap[D.c]?):oP D ρ ρr W1 h hr g V Vr L:=
 ⟨R.side.stays f h1 hc,R.sideR.stays f h2 hc,R.only,R.chR,R.unmk,R.base,R.all,fun a b hch d hne=>by
  obtain ⟨n,s,q,tm,i,s',q',e1,e2⟩:=R.rest a b hch d hne;exact ⟨n,s,q,tm,i,s',q',e1,by rw [h1 a b d (fun e=>hne (ρ.inj _ _ _ d (e▸R.side.pair)))];exact e2⟩⟩
theorem jI.stays (R:jI D ρ ρr W buf hr Vr x L f)(a:W1.os=W.os)(h1:∀x b,ρ x b->b≠D.c->W1.heap[b]?=W.heap[b]?)(h2:∀x b,ρr x b->b≠D.c->W1.heap[b]?=W.heap[b]?)(hc:W1.heap[D.c]?=W.heap[D.c]?):jI D ρ ρr W1 buf hr Vr x L f:=by
 cases R with
 |run R hd hp=>exact .run (R.stays a h1 h2 hc) hd hp
 |park C hb hd hp=>exact .park ⟨C.at1.stays a h1 h2 hc,C.sh,C.atc,C.rc,C.rcr⟩ hb hd hp
 |last C hb hp=>exact .last ⟨C.at1.stays a h1 h2 hc,C.sh,C.atc,C.rc,C.rcr⟩ hb hp
 |pre k R hd hp d hy=>
  obtain ⟨⟨x0,k1,k2⟩,e⟩:=d;exact .pre k (R.stays a h1 h2 hc) hd hp ⟨⟨x0,k1,k2⟩,e⟩ (hy.rely (h2 _ _ k1 e))
theorem gy.stays (S:gy D ρs W n buf hs Vs x L f)(a:W1.os=W.os)(h1:∀x b,ρs x b->b≠D.c->W1.heap[b]?=W.heap[b]?)(hc:W1.heap[D.c]?=W.heap[D.c]?):gy D ρs W1 n buf hs Vs x L f:=by
 cases S with
 |run S=>exact .run (S.stays a h1 hc)
 |new S hy hst=>exact .new (S.stays a h1 hc) hy hst
 |park S e d hf=>exact .park (S.stays a h1 hc) e d hf
theorem gy.lt (S:gy D ρs W n buf hs Vs x L f):∀y b,ρs y b->b<W.heap.size:=fun y b k=>by
 cases S with
 |run S=>exact (S.sim.lt k).2
 |new S _ _=>exact (S.sim.lt k).2
 |park S _ _ _=>exact (S.sim.lt k).2
theorem gy.ch (S:gy D ρs W n buf hs Vs x L f):(∀y,ρs.ch y↔y=D.cs)/\ρs D.cs D.c:=by
 cases S with
 |run S=>exact ⟨S.ch,S.pair⟩
 |new S _ _=>exact ⟨S.ch,S.pair⟩
 |park S _ _ _=>exact ⟨S.ch,S.pair⟩
theorem jI.ch (R:jI D ρ ρr W buf hr Vr x L f):((∀y,ρr.ch y->y=D.cr)/\ρr D.cr D.c)/\(∀y b,ρ y b->b<W.heap.size)/\∀y b,ρr y b->b<W.heap.size:=by
 cases R with
 |run R _ _=>exact ⟨⟨R.chR,R.sideR.pair⟩,fun y b k=>(R.side.sim.lt k).2,fun y b k=>(R.sideR.sim.lt k).2⟩
 |park C _ _ _=>exact ⟨⟨C.at1.chR,C.at1.sideR.pair⟩,fun y b k=>(C.at1.side.sim.lt k).2,fun y b k=>(C.at1.sideR.sim.lt k).2⟩
 |last C _ _=>exact ⟨⟨C.at1.chR,C.at1.sideR.pair⟩,fun y b k=>(C.at1.side.sim.lt k).2,fun y b k=>(C.at1.sideR.sim.lt k).2⟩
 |pre _ R _ _ _ _=>exact ⟨⟨R.chR,R.sideR.pair⟩,fun y b k=>(R.side.sim.lt k).2,fun y b k=>(R.sideR.sim.lt k).2⟩
theorem gy.pre (O:wJ P D Post)(hD:Dem P.alt D.Ns D.Ts hs Vs)(S:gy D ρs W n buf hs Vs x L f){b:List Wq}{s q:Nat}{tm:Bool}(r:kO W D.c n b false s q tm):L <+:D.L:=by
 have key:∀ {s:Wj} {W:Wz} {L:List Wq},Snd P ([trap P.alt],D.Bs) ρs hs s Vs W D.cs D.c L->L <+:D.L:=fun S=>by
  obtain ⟨n,b,s,q,tm,h1,h2⟩:=S.row;exact h2▸(O.pre hD _ _ _ _ _ _ h1).2
 cases S with
 |run S=>exact key S
 |new S _ _=>exact key S
 |park S d a hf=>
  obtain ⟨v0,-,S2⟩:=S.push d a rfl (fun _ _=>rfl) r r;exact (List.prefix_append _ _).trans (key S2)
omit [Two P] in
theorem Moved.left (m:Moved ρ ρ' ρr ρr' W W1 D.c es)(hF:Far ρr ρs)(hS:∀y b,ρs y b->b<W.heap.size)(hch:∀y,ρr.ch y->ρr y D.c):∀x b,ρs x b->b≠D.c->W1.heap[b]?=W.heap[b]?:=fun x b hb hne=>
 m.keep.block b (hS x b hb) (fun a ha=>by
  rcases hF b a x ha hb with ⟨k,-⟩|⟨k,-⟩
  .exact k
  .exact absurd (ρr.fn _ _ _ ha (hch a k)) hne)
omit [Two P] in
theorem Moved.half (m:Moved ρ ρ' ρr ρr' W W1 D.c es)(a:Half ρ ρs)(hS:∀y b,ρs y b->b<W.heap.size):Half ρ' ρs:=fun b x y h1 h2=>by
 rcases m.new x b h1 with k|k
 .exact a b x y k h2
 .have:=hS y b h2;omega
omit [Two P] in
theorem j9.far (m:j9 ρs ρs' W W1 D.c es)(hF:Far ρr ρs)(a:∀y b,ρr y b->b<W.heap.size):Far ρr ρs':=fun b x y h1 h2=>by
 rcases m.new y b h2 with k|k
 .rw [m.le.old,m.le.ch];exact hF b x y h1 k
 .have:=a x b h1;omega
omit [Two P] in
theorem j9.half (m:j9 ρs ρs' W W1 D.c es)(a:Half ρ ρs)(d:∀y b,ρ y b->b<W.heap.size):Half ρ ρs':=fun b x y h1 h2=>by
 rcases m.new y b h2 with k|k
 .rw [m.le.old,m.le.ch];exact a b x y h1 k
 .have:=d x b h1;omega
omit [Two P] in
theorem j9.left (m:j9 ρs ρs' W W1 D.c es){σ:Ren}(d:Half σ ρs)(e:∀y b,σ y b->b<W.heap.size)(hch:∀y,ρs.ch y->ρs y D.c):∀x b,σ x b->b≠D.c->W1.heap[b]?=W.heap[b]?:=fun x b hb hne=>
 m.keep.block b (e x b hb) (fun a ha=>by
  rcases d b x a hb ha with k|k
  .exact k
  .exact absurd (ρs.fn _ _ _ ha (hch a k)) hne)
theorem Far.half (h:Far ρr ρs):Half ρr ρs:=fun b x y h1 h2=>(h b x y h1 h2).imp (·.2) (·.2)
theorem jI.again (R:jI D ρ ρr W buf hr Vr x L f){w:Wz}{d:Nat}{b:List Wq}{s q:Nat}{tm:Bool}(r:kO w D.c d b false s q tm):x.again w=x:=by
 obtain ⟨a,r,-⟩:=r;cases R with
 |run R _ _=>exact Conc.again_running _ (.inl R.run)
 |park C _ _ _=>exact Conc.again_recv_open r
 |last C _ _=>exact Conc.again_recv_open r
 |pre _ R _ _ _ hy=>exact Conc.again_running _ (.inl (hy.status R.run))
theorem gy.again (S:gy D ρs W n buf hs Vs x L f){w:Wz}{d:Nat}{b:List Wq}{s q:Nat}{tm:Bool}(r:kO w D.c d b false s q tm):x.again w=x:=by
 obtain ⟨a,r,-⟩:=r;cases S with
 |run S=>exact Conc.again_running _ (.inl S.go.status.2)
 |new S _ hst=>exact Conc.again_running _ (.inl hst)
 |park S _ _ _=>exact Conc.again_send_open r
theorem jI.status (R:jI D ρ ρr W buf hr Vr x L f):x.status=.running\/x.status=.blocked:=by
 cases R with
 |run R _ _=>exact .inl R.run
 |park C _ _ _=>exact .inr rfl
 |last C _ _=>exact .inr rfl
 |pre _ R _ _ _ hy=>exact .inl (hy.status R.run)
theorem gy.status (S:gy D ρs W n buf hs Vs x L f):x.status=.running\/x.status=.blocked:=by
 cases S with
 |run S=>exact .inl S.go.status.2
 |new S _ hst=>exact .inl hst
 |park S _ _ _=>exact .inr rfl
end
end
section
open Go.Conc (crowd Past EvL Deaf QuitsD woken awake crowd_pick runT_crowd_go rcase scase parked ph)
open Go.ConcN (sumTo upd sumTo_upd upd_ne upd_same)
variable {P:Wx} [Two P] {D:PhD P} {Post:Wq->Wz->Prop}
structure lj (D:PhD P)(ρ ρr ρs:Ren)(W:Wz):Prop where
 half:Half ρ ρs
 out:yC D ρ ρr W
 offS:Off D.U ρs
omit [Two P] in
theorem lj.rcv {ρ ρr ρs ρ' ρr':Ren}{W W1:Wz}{es:Array Event}(h:lj D ρ ρr ρs W)(m:Moved ρ ρ' ρr ρr' W W1 D.c es)(hS:∀y b,ρs y b->b<W.heap.size):lj D ρ' ρr' ρs W1:=⟨m.half h.half hS,h.out.rcv m,h.offS⟩
omit [Two P] in
theorem lj.snd {ρ ρr ρs ρs':Ren}{W W1:Wz}{es:Array Event}(h:lj D ρ ρr ρs W)(m:j9 ρs ρs' W W1 D.c es)(a:∀y b,ρ y b->b<W.heap.size):lj D ρ ρr ρs' W1:=⟨m.half h.half a,⟨h.out.kp.keep h.offS m.keep,h.out.off,h.out.offR,h.out.chan⟩,h.offS.new h.out.kp m.le.sub m.new ⟨m.le.pin,m.le.bad⟩⟩
omit [Two P] in
theorem lj.set {ρ ρr ρs:Ren}{W:Wz}(h:lj D ρ ρr ρs W){n:Nat}{b:Array Wq}{cl:Bool}{s q:Nat}{tm:Bool}:lj D ρ ρr ρs (W.setChan D.c n b cl s q tm):=⟨h.half,h.out.set _ _ _ _ _ _,h.offS⟩
omit [Two P] in
theorem yC.shut {ρ ρr:Ren}{W:Wz}(h:yC D ρ ρr W){n:Nat}{b:Array Wq}{s q:Nat}{tm:Bool}:yC D ρ ρr (eb W D.c n b s q tm):=h.set _ _ _ _ _ _
omit [Two P] in
theorem lj.at {ρ ρr ρs:Ren}{W:Wz}(h:lj D ρ ρr ρs W)(d:Nat):lj D ρ ρr ρs (W.at d):=⟨h.half,⟨h.out.kp,h.out.off,h.out.offR,h.out.chan⟩,h.offS⟩
def iK (P:Wx) [Two P](D:PhD P)(Post:Wq->Wz->Prop)(hr:Wj)(Vr:Wz)(hs:Wj)(Vs:Wz):Prop:=
 ∀ (gs:Array Wj) (W:Wz) (sl:Option (Nat×Nat)) (t:Trace) (qs:Nat->Nat) (ρ ρr ρs:Ren) (x0 xk:Wj) (L Ls buf a:List Wq) (n s q:Nat) (tm:Bool) (f1 f2:Nat),jI D ρ ρr W buf hr Vr x0 L f1->gy D ρs W n buf hs Vs xk Ls f2->kO W D.c n buf false s q tm->0<n->Ls=a++buf->D.L=a++L->Far ρr ρs->lj D ρ ρr ρs W->gs[0]?=some x0->gs[D.k]?=some xk->Lv P (fun i=>i=D.k) t gs qs->PhT 0 D.k ρr ρs W.heap.size t->Fin P Post gs W sl t
omit [Two P] in
theorem gW {gs:Array Wj}{t:Trace}{qs:Nat->Nat}{k i:Nat}(d:Lv P (fun j=>j=k) t gs qs){y:Wj}{j:Nat}(a:(i=0/\j=k)\/(i=k/\j=0))(f:gs[j]?=some y)(r:Nat)(b:Bool)(hy:Conc.offersAt y r b=[]):partners (gs.setIfInBounds i ph) r b=[]:=by
 refine Conc.partners_nil (fun l x hx=>?_);rcases Conc.getElem?_stand gs i l x hx with ⟨-,rfl⟩|⟨hne,hx⟩
 .exact Conc.offersAt_ph r b
 .by_cases c:l=j
  .subst c;rw [f] at hx;cases hx;exact hy
  .refine Conc.offersAt_of_not_blocked (fun e=>?_) r b;have h0:0<l:=by rcases a with ⟨rfl,rfl⟩|⟨rfl,rfl⟩<;>omega
   have hk:¬l=k:=by rcases a with ⟨rfl,rfl⟩|⟨rfl,rfl⟩<;>assumption
   rcases (d.old l x h0 hk hx).status with h|h<;>rw [h] at e<;>cases e
omit [Two P] in
theorem pp {gs:Array Wj}{t:Trace}{qs:Nat->Nat}{k i:Nat}(d:Lv P (fun j=>j=k) t gs qs){y:Wj}{j:Nat}(a:(i=0/\j=k)\/(i=k/\j=0))(hne0:k≠0)(f:gs[j]?=some y)(r:Nat)(b:Bool)(hy:Conc.offersAt y r b=[0]):partners (gs.setIfInBounds i ph) r b=[(j,0)]:=by
 have c:j≠i:=by rcases a with ⟨rfl,rfl⟩|⟨rfl,rfl⟩<;>omega
 rw [Conc.partners_one (Conc.stand_get c f) (fun l x hl hx=>?_),hy]
 .rfl
 .rcases Conc.getElem?_stand gs i l x hx with ⟨-,rfl⟩|⟨hne,hx⟩
  .exact Conc.offersAt_ph r b
  .refine Conc.offersAt_of_not_blocked (fun e=>?_) r b;have h0:0<l:=by rcases a with ⟨rfl,rfl⟩|⟨rfl,rfl⟩<;>omega
   have hk:¬l=k:=by rcases a with ⟨rfl,rfl⟩|⟨rfl,rfl⟩<;>assumption
   rcases (d.old l x h0 hk hx).status with h|h<;>rw [h] at e<;>cases e
theorem wN {a b c l:List Wq}{v:Wq}(h1:a=c++(v::b))(h:a <+:c++l):∃l',l=v::l':=by
 subst h1;obtain ⟨e,he⟩:=h;simp only [pA,List.append_cancel_left_eq,List.cons_append] at he;exact ⟨_,he.symm⟩
theorem oP.other {ρ ρr:Ren}{W W1:Wz}{h hr g:Wj}{V Vr:Wz}{L:List Wq}(R:oP D ρ ρr W h hr g V Vr L)(f:W1.os=W.os)(hs:∀b,b≠D.c->W1.heap[b]?=W.heap[b]?){n i:Nat}{b b':List Wq}{cl j:Bool}{s q s' q':Nat}{tm:Bool}(r1:kO W D.c n b cl s q tm)(r2:kO W1 D.c i b' j s' q' tm):oP D ρ ρr W1 h hr g V Vr L:=
 ⟨R.side.other f (fun _ b _ hb=>hs b hb) r1 r2,R.sideR.other f (fun _ b _ hb=>hs b hb) r1 r2,R.only,R.chR,R.unmk,R.base,R.all,fun a b hch d hne=>by
  obtain ⟨n,s,q,tm,i,s',q',e1,e2⟩:=R.rest a b hch d hne;exact ⟨n,s,q,tm,i,s',q',e1,by rw [hs b (fun e=>hne (ρ.inj _ _ _ d (e▸R.side.pair)))];exact e2⟩⟩
theorem PhT.ops {p q:Nat}{ρ ρ':Ren}{B:Nat}(hF:Far ρ ρ'):∀ (l:List MemOp)(t:Trace),PhT p q ρ ρ' B t->(∀b∈l,(b.g=p\/b.g=q)/\de B b.act)->PhT p q ρ ρ' B (t++l.toArray):=by
 intro l;induction l with
 |nil=>intro t h _;simpa using h
 |cons x l ih=>
  intro t h hl;have e:t++(x::l).toArray=(t++#[x])++l.toArray:=by apply Array.ext';simp
  rw [e];refine ih _ ?_ (fun b a=>hl b (by simp [a]));obtain ⟨hg,hc⟩:=hl x (by simp);rcases hg with hg|hg
  .exact h.app (Ren.le_refl _) hF (lR _) (fun b a=>by simp at a;subst a;exact ⟨hg,vd hc⟩)
  .exact (h.symm.app (Ren.le_refl _) hF.symm (lR _) (fun b a=>by simp at a;subst a;exact ⟨hg,vd hc⟩)).symm
theorem m8 (O:wJ P D Post){hr hs:Wj}{Vr Vs:Wz}(a8:Dem P.alt D.Ns D.Ts hs Vs)(ct:NB [trap P.alt] hr)(hls:∀τ d,∃a0 Vr',LS P.alt hr (Vr.on τ d) a0 Vr')
  (hn:∀τ d a0 Vr',LS P.alt hr (Vr.on τ d) a0 Vr'->(∀hs Vs,Dem P.alt D.Ns D.Ts hs Vs->iK P D Post a0 Vr' hs Vs)\/((∀n b s q tm,Vr.heap[D.cr]?=some (.chan n b true s q tm)->b.toList=[])/\∃h1 cc s V1 es,stepG P.alt true hr (Vr.on τ d)=.comm h1 cc true s V1 es))
  (ar:fv P D Post hr Vr)
  (bt:(NB [trap P.alt] hs/\∀τ d,(∃a1 Vs',LS P.alt hs (Vs.on τ d) a1 Vs')/\∀a1 Vs',LS P.alt hs (Vs.on τ d) a1 Vs'->Dem P.alt D.Ns D.Ts a1 Vs'/\iK P D Post hr Vr a1 Vs')\/D.Ts hs Vs):iK P D Post hr Vr hs Vs:=by
 intro gs W sl t qs ρ ρr ρs x0 xk L Ls buf A n s q tm f1 f2 RP SP r Z N G hF hH h0 hk hL hP;obtain ⟨M,hM⟩:∃M,sumTo gs.size qs+f1+f2<=M:=⟨_,lR _⟩;induction M using Nat.strongRecOn generalizing gs W sl t qs x0 xk ρ ρr ρs f1 f2 with
 |_ M ih=>
  have hkpos:0<D.k:=Nat.pos_of_ne_zero O.k0;have hlt0:0<gs.size:=(eS h0).1;have Q:D.k<gs.size:=(eS hk).1;have c8:∀y∈gs,awake y:=fun y hy=>by
   obtain ⟨i,hi,rfl⟩:=Array.mem_iff_getElem.1 hy;by_cases b1:i=0
   .subst b1;have:gs[0]=x0:=by simpa [eG hi] using h0
    rw [this];exact Conc.awake_of (RP.status.imp id .inl)
   .by_cases bd:i=D.k
    .subst bd;have:gs[D.k]=xk:=by simpa [eG hi] using hk
     rw [this];exact Conc.awake_of (SP.status.imp id .inl)
    .exact Conc.awake_of ((hL.old i _ (by omega) bd (eG hi)).status.elim .inl fun x=>.inr (.inr x))
  have bs:∃ (i:Nat) (g:Wj),gs[i]?=some g/\g.status=.running:=by
   cases RP with
   |run R _ _=>exact ⟨0,_,h0,R.run⟩
   |pre _ R _ _ _ hy=>exact ⟨0,_,h0,hy.status R.run⟩
   |park C hb _ _=>
    cases SP with
    |run S=>exact ⟨_,_,hk,S.go.status.2⟩
    |new S _ hst=>exact ⟨_,_,hk,hst⟩
    |park _ _ _ hf=>rw [hb] at hf;simp at hf;omega
   |last C hb _=>
    cases SP with
    |run S=>exact ⟨_,_,hk,S.go.status.2⟩
    |new S _ hst=>exact ⟨_,_,hk,hst⟩
    |park _ _ _ hf=>rw [hb] at hf;simp at hf;omega
  obtain ⟨i,x,d,B,hi,hx,hst⟩:=crowd_pick (P:=P) (w:=W) (sl:=sl) c8 bs;by_cases b1:i=0
  .subst b1;obtain rfl:x0=x:=by rw [h0] at hi;exact oJ hi
   cases RP with
   |park C _ _ _=>cases hx
   |last C _ _=>cases hx
   | @pre h g _ V _ k R hd hp al hy=>
    rcases hy.next with rfl|⟨a4,k',rfl,hnx⟩
    .exact ih (sumTo gs.size qs+1+f2) (by omega) gs W sl t qs ρ ρr ρs x0 xk 1 f2 (.run R hd hp) SP r hF hH h0 hk hL hP (lR _)
    .obtain ⟨y',es,hg,hev,c7⟩:=hnx d;obtain ⟨ab,ops,e1,e2,e3,e4,e5,e6⟩:=qD (K:=fun i=>i=D.k) hL hi (.inl rfl) hst (show stepG P (0==0) x0 (W.at d)=_ from hg);subst e2;have SP1:gy D ρs (W.at d) n buf hs Vs xk Ls f2:=SP.stays rfl (fun _ _ _ _=>rfl) rfl;exact Fin.next e1 (ih (sumTo ab.size qs+(k'+2)+f2) (by rw [e3];omega) ab (W.at d) B _ qs ρ ρr ρs y' xk (k'+2) f2 (.pre k' (R.at d) hd hp al c7) SP1 r hF (hH.at d) e4 (by rw [e5 D.k xk O.k0 hk,fO (SP1.again (w:=W.at d) r)]) e6 (hP.app (Ren.le_refl _) hF (lR _) (j7 (R.at d).sideR.sim (wM al.1 hev) 0 _ _)) (lR _))
   | @run h _ V _ R hd hp=>
    obtain ⟨h',V',hl,J,F⟩:=sw O R hd hp d;obtain ⟨a0,Vr',bw⟩:=hls W.tape d;have hnx:=hn _ _ _ _ bw;obtain ⟨g1,W1,es,ρ',ρr',m,hcs⟩:=wK O R ct d hl bw;have hBs:=SP.lt;have hF':=m.far hF hBs;have hH':=hH.rcv m hBs;have hsz:W.heap.size<=W1.heap.size:=m.keep.size;have r1:kO W1 D.c n buf false s q tm:=by
     obtain ⟨a,k1,k2⟩:=r;exact ⟨a,m.row.trans k1,k2⟩
    have hleft:=m.left hF hBs (fun y k=>by rw [R.chR y k];exact R.sideR.pair);have SP1:gy D ρs W1 n buf hs Vs xk Ls f2:=SP.stays m.keep.os hleft m.row;have hPre:=SP.pre O a8 r;rcases hcs with ⟨hg,R'⟩|⟨h1,hr1,V1,Vr1,z,sh,hg,C⟩
    .have hC:∀hs Vs,Dem P.alt D.Ns D.Ts hs Vs->iK P D Post a0 Vr' hs Vs:=by
      rcases hnx with k|⟨-,_,_,_,_,_,k⟩
      .exact k
      .exfalso;have c5:Base ([trap P.alt],D.X.2) hr.frame x0.callers:=fun e=>ct (R.sideR.go.callers.tail e)
       obtain ⟨-,sr⟩:=m7 O.zero O.count true R.sideR.go c5 R.sideR.sim R.sideR.gid R.sideR.ext R.unmk.1 d rfl bw;rw [k,hg] at sr;cases sr
     obtain ⟨ab,ops,e1,e2,e3,e4,e5,e6⟩:=qD (K:=fun i=>i=D.k) hL hi (.inl rfl) hst (show stepG P (0==0) x0 (W.at d)=_ from hg);subst e2;exact Fin.next e1 (hC hs Vs a8 ab W1 B _ qs ρ' ρr' ρs g1 xk L Ls buf A n s q tm 1 f2 (.run R' J F) SP1 r1 Z N G hF' hH' e4 (by rw [e5 D.k xk O.k0 hk,fO (SP1.again r1)]) e6 (hP.app m.ler hF' hsz (j7 R'.sideR.sim m.ev 0 _ _)))
    .obtain ⟨a,ha1,p⟩:=r1;have hlt:D.c<W1.heap.size:=(eS ha1).1;have hev:=j7 C.at1.sideR.sim m.ev 0 x0.frame.fn x0.frame.place;have hP1:=hP.app m.ler hF' hsz hev;have I:stepG P (0==0) x0 (W.at d)=.comm g1 #[rcase D.c z] true sh W1 es:=hg;cases buf with
     |nil=>
      have H:Conc.offersAt xk D.c true=[]:=by
       cases SP1 with
       |run S=>exact Conc.offersAt_of_not_blocked (by rw [S.go.status.2];exact fun h=>by cases h) _ _
       |new S _ hst=>exact Conc.offersAt_of_not_blocked (by rw [hst];exact fun h=>by cases h) _ _
       |park _ _ _ hf=>simp at hf;omega
      have ha:a=#[]:=Array.toList_inj.1 (by simpa using p);subst ha;have hrt:=Conc.crowd_waits (sl:=B) (i:=0) hi I (fun cc ap=>by
       simp at ap;subst ap;exact Conc.ways_recv_none ha1 (gW hL (.inl ⟨rfl,rfl⟩) hk D.c true H))
      have a7:Lv P (fun i=>i=D.k) (t++MemOp.ofEvents 0 x0.frame.fn x0.frame.place es) (gs.setIfInBounds 0 (parked g1 #[rcase D.c z] sh)) qs:=hL.put (fun E f=>(hev E f).2.2.1) (by simp) (fun j hj _=>sN (by omega));have b9:(gs.setIfInBounds 0 (parked g1 #[rcase D.c z] sh))[D.k]?=some xk:=by rw [sN (by omega)];exact hk
      have b8:(gs.setIfInBounds 0 (parked g1 #[rcase D.c z] sh))[0]?=some (parked g1 #[rcase D.c z] sh):=by simp [hlt0]
      refine Fin.next (hst.trans hrt) ?_
      cases L with
      |nil=>exact ih (sumTo gs.size qs+0+f2) (by omega) _ W1 B _ qs ρ' ρr' ρs _ xk 0 f2 (.last C rfl F) SP1 ⟨_,ha1,p⟩ hF' hH' b8 b9 a7 hP1 (by simp)
      |cons v L=>
       have hC:∀hs Vs,Dem P.alt D.Ns D.Ts hs Vs->iK P D Post a0 Vr' hs Vs:=by
        rcases hnx with k|⟨k,-⟩
        .exact k
        .exfalso;obtain ⟨n0,b0,s0,q0,ca,k1,k2⟩:=R.sideR.row;rw [k _ _ _ _ _ k1] at k2;cases k2
       exact hC hs Vs a8 _ W1 B _ qs ρ' ρr' ρs _ xk (v::L) Ls [] A n s q tm 0 f2 (.park C rfl J F) SP1 ⟨_,ha1,p⟩ Z N G hF' hH' b8 b9 a7 hP1
     |cons v rest=>
      obtain ⟨L',rfl⟩:=wN N (G▸hPre);have hC:∀hs Vs,Dem P.alt D.Ns D.Ts hs Vs->iK P D Post a0 Vr' hs Vs:=by
       rcases hnx with k|⟨k,-⟩
       .exact k
       .exfalso;obtain ⟨n0,b0,s0,q0,ca,k1,k2⟩:=R.sideR.row;rw [k _ _ _ _ _ k1] at k2;cases k2
      have hv:v∈D.L:=by rw [G];simp
      have a5:0<a.size:=by rw [<-lY,p];simp
      have bo:a.getD 0 Wy=v:=by rw [gD,<-gT,p];rfl
      have bl:(a.extract 1 a.size).toList=rest:=by
       have hl:a.toList.length=a.size:=lY;rw [Array.toList_extract,p] at *;simp at hl ⊢;rw [<-hl];simp
      have cp:Conc.offersAt xk D.c true=[]->(∀W2:Wz,W2.os=W1.os->(∀b,b≠D.c->W2.heap[b]?=W1.heap[b]?)->∀b' s' q',kO W2 D.c n b' false s' q' tm->gy D ρs W2 n b' hs Vs xk Ls f2)->Fin P Post gs W sl t:=fun H c6=>by
       have hrt:=Conc.crowd_recv_buf (sl:=B) (i:=0) hi I ha1 a5 (gW hL (.inl ⟨rfl,rfl⟩) hk D.c true H);rw [bo] at hrt;have r2:=dH W1 D.c n (a.extract 1 a.size) false s (q+1) tm hlt;rw [bl] at r2;have R2:=C.take O hv (W':=W1.setChan D.c n (a.extract 1 a.size) false s (q+1) tm) rfl (fun b hb=>aG _ _ _ _ _ _ _ _ hb) ⟨a,ha1,p⟩ r2;have hu:∀E∈[({g:=0,fn:=g1.frame.fn,pos:=g1.frame.place,act:=.recv D.c q n}:MemOp),{g:=0,fn:=g1.frame.fn,pos:=g1.frame.place,act:=.recvDone D.c q}],(E.g=0\/E.g=D.k)/\de W1.heap.size E.act:=fun E f=>by
        simp at f;rcases f with rfl|rfl<;>exact ⟨.inl rfl,hlt⟩
       refine Fin.next (hst.trans hrt) (hC hs Vs a8 _ _ B _ qs ρ' ρr' ρs _ xk L' Ls rest (A++[v]) n s (q+1) tm 1 f2 (.run R2 J F) (c6 (W1.setChan D.c n (a.extract 1 a.size) false s (q+1) tm) rfl (fun b hb=>aG _ _ _ _ _ _ _ _ hb) _ _ _ r2) r2 Z (by rw [N];simp) (by rw [G];simp) hF' hH'.set (by simp [hlt0]) (by rw [sN (by omega)];exact hk) (hL.put (fun E f=>?_) (by simp) (fun j hj _=>sN (by omega))) ?_)
       .rcases Array.mem_append.1 f with k|k
        .exact (hev E k).2.2.1
        .exact (hu E (by simpa using k)).2.still
       .rw [<-Array.append_assoc,ce];exact PhT.ops hF' _ _ hP1 hu
      cases SP1 with
      |run S=>exact cp (Conc.offersAt_of_not_blocked (by rw [S.go.status.2];exact fun h=>by cases h) _ _) (fun W2 bb hb b' s' q' r2=>.run (S.other bb (fun _ b _ k=>hb b k) ⟨a,ha1,p⟩ r2))
      |new S hy a4=>exact cp (Conc.offersAt_of_not_blocked (by rw [a4];exact fun h=>by cases h) _ _) (fun W2 bb hb b' s' q' r2=>.new (S.other bb (fun _ b _ k=>hb b k) ⟨a,ha1,p⟩ r2) hy a4)
      | @park h1s s1 V1s _ cc v1 z1 S rc lc hf=>
       have H:Conc.offersAt (parked s1 #[scase D.c v1 z1] .send) D.c true=[0]:=by rw [Conc.offersAt_parked_send];simp
       have hrt:=nT (sl:=B) (i:=0) (j:=D.k) hi I ha1 a5 O.k0 hk (pp hL (.inl ⟨rfl,rfl⟩) O.k0 hk D.c true H);rw [bo] at hrt;have r2:=dH W1 D.c n ((a.extract 1 a.size).push v1) false (s+1) (q+1) tm hlt;rw [Array.toList_push,bl] at r2;have R2:=C.take O hv (W':=W1.setChan D.c n ((a.extract 1 a.size).push v1) false (s+1) (q+1) tm) rfl (fun b hb=>aG _ _ _ _ _ _ _ _ hb) ⟨a,ha1,p⟩ r2;obtain ⟨v0,b3,S2⟩:=S.push rc lc (W':=W1.setChan D.c n ((a.extract 1 a.size).push v1) false (s+1) (q+1) tm) rfl (fun b hb=>aG _ _ _ _ _ _ _ _ hb) ⟨a,ha1,p⟩ r2;have ad:Ls++[v0] <+:D.L:=by
        obtain ⟨_,_,_,_,_,k1,k2⟩:=S2.row;exact k2▸(O.pre a8 _ _ _ _ _ _ k1).2
       obtain rfl:v1=v0:=(O.flat v0 (ad.subset (by simp)) ρs).2 v1 b3;have hu:∀E∈[({g:=0,fn:=g1.frame.fn,pos:=g1.frame.place,act:=.recv D.c q n}:MemOp),{g:=0,fn:=g1.frame.fn,pos:=g1.frame.place,act:=.recvDone D.c q},{g:=D.k,fn:=s1.frame.fn,pos:=s1.frame.place,act:=.send D.c s},{g:=D.k,fn:=s1.frame.fn,pos:=s1.frame.place,act:=.sendDone D.c s}],(E.g=0\/E.g=D.k)/\de W1.heap.size E.act:=fun E f=>by
        simp at f;rcases f with rfl|rfl|rfl|rfl
        .exact ⟨.inl rfl,hlt⟩
        .exact ⟨.inl rfl,hlt⟩
        .exact ⟨.inr rfl,hlt⟩
        .exact ⟨.inr rfl,hlt⟩
       refine Fin.next (hst.trans hrt) (hC hs Vs a8 _ _ B _ qs ρ' ρr' ρs _ (s1.finishComm P #[scase D.c v1 z1] .send 0 Wy false) L' (Ls++[v1]) (rest++[v1]) (A++[v]) n (s+1) (q+1) tm 1 1 (.run R2 J F) (.run S2) r2 Z (by rw [N];simp) (by rw [G];simp) hF' hH'.set (by simp [hlt0]) (by rw [sN (by omega)];simp [Q]) (hL.put (fun E f=>?_) (by simp) (fun j hj T=>by rw [sN (by omega),sN (fun e=>T e.symm)])) ?_)
       .rcases Array.mem_append.1 f with k|k
        .exact (hev E k).2.2.1
        .exact (hu E (by simpa using k)).2.still
       .rw [<-Array.append_assoc,ce];exact PhT.ops hF' _ _ hP1 hu
  .by_cases bd:i=D.k
   .subst bd;obtain rfl:xk=x:=by rw [hk] at hi;exact oJ hi
    have hkk:(D.k==0)=false:=beq_eq_false_iff_ne.2 O.k0;obtain ⟨⟨hchr,hpr⟩,ck,cd⟩:=RP.ch;have bn:∀y,ρs.ch y->ρs y D.c:=fun y k=>by rw [(SP.ch.1 y).1 k];exact SP.ch.2
    cases SP with
    |park _ _ _ _=>cases hx
    | @new _ s0 _ S hy a4=>
     obtain ⟨ab,ops,e1,e2,e3,e4,e5,e6⟩:=qD (K:=fun i=>i=D.k) hL hi (.inr rfl) hst (show stepG P (D.k==0) xk (W.at d)=.go s0 (W.at d) #[] by rw [hkk];exact hy _);subst e2;rw [iJ,Array.append_empty] at e6;rw [iJ] at e1;refine Fin.next e1 (ih (sumTo ab.size qs+f1+1) (by rw [e3];omega) ab (W.at d) B _ qs ρ ρr ρs x0 s0 f1 1 (RP.stays rfl (fun _ _ _ _=>rfl) (fun _ _ _ _=>rfl) rfl) (.run (S.stays rfl (fun _ _ _ _=>rfl) rfl)) r hF (hH.at d) ?_ e4 ?_ ?_ (lR _))
     .rw [e5 0 x0 (by omega) h0,fO (RP.again (w:=W.at d) r)]
     .rw [Array.append_empty];exact e6
     .rw [Array.append_empty];exact hP
    |run S=>
     rcases bt with ⟨c1,bx⟩|b6
     .obtain ⟨⟨a1,Vs',hl⟩,cb⟩:=bx W.tape d;obtain ⟨bp,hO⟩:=cb _ _ hl;obtain ⟨s1,W1,es,ρs',m,hcs⟩:=CT O S c1 d hl (fun n b cl s q tm k=>(O.pre bp _ _ _ _ _ _ k).1);have hF':=m.far hF cd;have hH':=hH.snd m ck;have hsz:W.heap.size<=W1.heap.size:=m.keep.size;have RP1:jI D ρ ρr W1 buf hr Vr x0 L f1:=RP.stays m.keep.os (m.left hH.half ck bn) (m.left hF.half cd bn) m.row;have r1:kO W1 D.c n buf false s q tm:=by
       obtain ⟨a,k1,k2⟩:=r;exact ⟨a,m.row.trans k1,k2⟩
      rcases hcs with ⟨hg,S'⟩|⟨h1,V1,cc,v,z,hg,S1,rc,lc⟩|⟨r',v,z,n',b',s',q',tm',hg,cv,S'⟩
      .obtain ⟨ab,ops,e1,e2,e3,e4,e5,e6⟩:=qD (K:=fun i=>i=D.k) hL hi (.inr rfl) hst (show stepG P (D.k==0) xk (W.at d)=_ by rw [hkk];exact hg);subst e2;exact Fin.next e1 (hO ab W1 B _ qs ρ ρr ρs' x0 s1 L Ls buf A n s q tm f1 1 RP1 (.run S') r1 Z N G hF' hH' (by rw [e5 0 x0 (by omega) h0,fO (RP1.again r1)]) e4 e6 (hP.symm.app m.le hF'.symm hsz (j7 S'.sim m.ev D.k _ _)).symm)
      .obtain ⟨a,ha1,p⟩:=r1;have hlt:D.c<W1.heap.size:=(eS ha1).1;have hev:=j7 S1.sim m.ev D.k xk.frame.fn xk.frame.place;have hP1:=(hP.symm.app m.le hF'.symm hsz hev).symm;have I:stepG P (D.k==0) xk (W.at d)=.comm s1 #[scase D.c v z] true .send W1 es:=by rw [hkk];exact hg
       have a3:∀ (W2:Wz),W2.os=W1.os->(∀b,b≠D.c->W2.heap[b]?=W1.heap[b]?)->∀n' b' s' q',kO W2 D.c n' b' false s' q' tm->Ls++[v] <+:D.L/\Snd P ([trap P.alt],D.Bs) ρs' a1 (s1.finishComm P #[scase D.c v z] .send 0 Wy false) Vs' W2 D.cs D.c (Ls++[v]):=fun W2 bb hb n' b' s' q' r2=>by
        obtain ⟨v0,b3,S2⟩:=S1.push rc lc bb hb ⟨a,ha1,p⟩ r2;have ad:Ls++[v0] <+:D.L:=by
         obtain ⟨_,_,_,_,_,k1,k2⟩:=S2.row;exact k2▸(O.pre bp _ _ _ _ _ _ k1).2
        obtain rfl:v=v0:=(O.flat v0 (ad.subset (by simp)) ρs').2 v b3;exact ⟨ad,S2⟩
       have af:∀y,(gs.setIfInBounds D.k y)[0]?=some x0:=fun y=>by rw [sN O.k0];exact h0
       have lv:∀ (y:Wj) (u:Trace),(∀E∈u,de W1.heap.size E.act)->Lv P (fun i=>i=D.k) (t++(MemOp.ofEvents D.k xk.frame.fn xk.frame.place es++u)) (gs.setIfInBounds D.k y) qs:=fun y u hu=>hL.put (fun E f=>by
        rcases Array.mem_append.1 f with k|k
        .exact (hev E k).2.2.1
        .exact (hu E k).still) (by simp) (fun j hj T=>sN (fun e=>T e.symm))
       cases RP1 with
       |last C hb hp=>
        subst hb;obtain ⟨k1,-⟩:=a3 W1 rfl (fun _ _=>rfl) n [] s q ⟨a,ha1,p⟩;rw [N,G] at k1;have:=k1.length_le;simp only [lP,List.length_cons,lN] at this;omega
       | @park c2 b5 g1 h' V1' Vr1' V' vL z' L' sh C hb J F=>
        subst hb;have H:Conc.offersAt (parked g1 #[rcase D.c z'] sh) D.c false=[0]:=by rw [Conc.offersAt_parked_recv];simp
        have hrt:=Conc.crowd_send_meets (sl:=B) (i:=D.k) (j:=0) hi I ha1 (Ne.symm O.k0) h0 (pp hL (.inr ⟨rfl,rfl⟩) O.k0 h0 D.c false H);have r2:=dH W1 D.c n a false (s+1) (q+1) tm hlt;rw [p] at r2;obtain ⟨k1,S2⟩:=a3 (W1.setChan D.c n a false (s+1) (q+1) tm) rfl (fun b hb=>aG _ _ _ _ _ _ _ _ hb) n [] (s+1) (q+1) r2;obtain ⟨L2,c9⟩:=wN (a:=Ls++[v]) (b:=[]) (c:=A) (v:=v) (l:=vL::L') (by rw [N];simp) (G▸k1);cases c9;have hv:v∈D.L:=k1.subset (by simp);have R2:=C.take O hv (W':=W1.setChan D.c n a false (s+1) (q+1) tm) rfl (fun b hb=>aG _ _ _ _ _ _ _ _ hb) ⟨a,ha1,p⟩ r2;have hu:∀E∈[({g:=D.k,fn:=s1.frame.fn,pos:=s1.frame.place,act:=.send D.c s}:MemOp),{g:=0,fn:=g1.frame.fn,pos:=g1.frame.place,act:=.recv D.c q n},{g:=D.k,fn:=s1.frame.fn,pos:=s1.frame.place,act:=.sendDone D.c s},{g:=0,fn:=g1.frame.fn,pos:=g1.frame.place,act:=.recvDone D.c q}],(E.g=0\/E.g=D.k)/\de W1.heap.size E.act:=fun E f=>by
         simp at f;rcases f with rfl|rfl|rfl|rfl
         .exact ⟨.inr rfl,hlt⟩
         .exact ⟨.inl rfl,hlt⟩
         .exact ⟨.inr rfl,hlt⟩
         .exact ⟨.inl rfl,hlt⟩
        refine Fin.next (hst.trans hrt) (hO _ _ B _ qs ρ ρr ρs' (g1.finishComm P #[rcase D.c z'] sh 0 v true) _ L' (Ls++[v]) [] (A++[v]) n (s+1) (q+1) tm 1 1 (.run R2 J F) (.run S2) r2 Z (by rw [N];simp) (by rw [G];simp) hF' hH'.set (by rw [sN O.k0];simp [hlt0]) (by simp [Q]) (hL.put (fun E f=>?_) (by simp) (fun j hj T=>by rw [sN (fun e=>T e.symm),sN (by omega)])) ?_)
        .rcases Array.mem_append.1 f with k|k
         .exact (hev E k).2.2.1
         .exact (hu E (by simpa using k)).2.still
        .rw [<-Array.append_assoc,ce];exact PhT.ops hF' _ _ hP1 hu
       | @run h' _ V' _ R J F=>
        have H:Conc.offersAt x0 D.c false=[]:=Conc.offersAt_of_not_blocked (by rw [R.run];exact fun h=>by cases h) _ _;have hp0:=gW (i:=D.k) hL (.inr ⟨rfl,rfl⟩) h0 D.c false H;by_cases hroom:a.size<n
        .have hrt:=Conc.crowd_send_room (sl:=B) (i:=D.k) hi I ha1 hroom hp0;have r2:=dH W1 D.c n (a.push v) false (s+1) q tm hlt;rw [Array.toList_push,p] at r2;obtain ⟨k1,S2⟩:=a3 (W1.setChan D.c n (a.push v) false (s+1) q tm) rfl (fun b hb=>aG _ _ _ _ _ _ _ _ hb) n (buf++[v]) (s+1) q r2;have R2:=R.other (W1:=W1.setChan D.c n (a.push v) false (s+1) q tm) rfl (fun b hb=>aG _ _ _ _ _ _ _ _ hb) ⟨a,ha1,p⟩ r2;have hu:∀E∈[({g:=D.k,fn:=s1.frame.fn,pos:=s1.frame.place,act:=.send D.c s}:MemOp),{g:=D.k,fn:=s1.frame.fn,pos:=s1.frame.place,act:=.sendDone D.c s}],(E.g=0\/E.g=D.k)/\de W1.heap.size E.act:=fun E f=>by
          simp at f;rcases f with rfl|rfl<;>exact ⟨.inr rfl,hlt⟩
         refine Fin.next (hst.trans hrt) (hO _ _ B _ qs ρ ρr ρs' x0 _ L (Ls++[v]) (buf++[v]) A n (s+1) q tm 1 1 (.run R2 J F) (.run S2) r2 Z (by rw [N];simp) G hF' hH'.set (af _) (by simp [Q]) (lv _ _ (fun E f=>(hu E (by simpa using f)).2)) ?_)
         rw [<-Array.append_assoc,ce];exact PhT.ops hF' _ _ hP1 hu
        .have Y:n<=a.size:=by omega
         have hrt:=Conc.crowd_waits (sl:=B) (i:=D.k) hi I (fun cc ap=>by
          simp at ap;subst ap;exact Conc.ways_send_none ha1 Y hp0)
         refine Fin.next (hst.trans hrt) (hO _ W1 B _ qs ρ ρr ρs' x0 _ L Ls buf A n s q tm 1 0 (.run R J F) (.park S1 rc lc (by rw [<-p,lY];exact Y)) ⟨a,ha1,p⟩ Z N G hF' hH' (af _) (by simp [Q]) ?_ hP1)
         have:=lv (parked s1 #[scase D.c v z] .send) #[] (fun E f=>by simp at f);rw [Array.append_empty] at this;exact this
       | @pre h' g' _ V' _ k R J F al hy=>
        have H:Conc.offersAt x0 D.c false=[]:=Conc.offersAt_of_not_blocked (by rw [hy.status R.run];exact fun h=>by cases h) _ _;have hp0:=gW (i:=D.k) hL (.inr ⟨rfl,rfl⟩) h0 D.c false H;by_cases hroom:a.size<n
        .have hrt:=Conc.crowd_send_room (sl:=B) (i:=D.k) hi I ha1 hroom hp0;have r2:=dH W1 D.c n (a.push v) false (s+1) q tm hlt;rw [Array.toList_push,p] at r2;obtain ⟨k1,S2⟩:=a3 (W1.setChan D.c n (a.push v) false (s+1) q tm) rfl (fun b hb=>aG _ _ _ _ _ _ _ _ hb) n (buf++[v]) (s+1) q r2;have R2:=R.other (W1:=W1.setChan D.c n (a.push v) false (s+1) q tm) rfl (fun b hb=>aG _ _ _ _ _ _ _ _ hb) ⟨a,ha1,p⟩ r2;have hu:∀E∈[({g:=D.k,fn:=s1.frame.fn,pos:=s1.frame.place,act:=.send D.c s}:MemOp),{g:=D.k,fn:=s1.frame.fn,pos:=s1.frame.place,act:=.sendDone D.c s}],(E.g=0\/E.g=D.k)/\de W1.heap.size E.act:=fun E f=>by
          simp at f;rcases f with rfl|rfl<;>exact ⟨.inr rfl,hlt⟩
         refine Fin.next (hst.trans hrt) (hO _ _ B _ qs ρ ρr ρs' x0 _ L (Ls++[v]) (buf++[v]) A n (s+1) q tm (k+2) 1 (.pre k R2 J F al (hy.rely (aG _ _ _ _ _ _ _ _ al.2))) (.run S2) r2 Z (by rw [N];simp) G hF' hH'.set (af _) (by simp [Q]) (lv _ _ (fun E f=>(hu E (by simpa using f)).2)) ?_)
         rw [<-Array.append_assoc,ce];exact PhT.ops hF' _ _ hP1 hu
        .have Y:n<=a.size:=by omega
         have hrt:=Conc.crowd_waits (sl:=B) (i:=D.k) hi I (fun cc ap=>by
          simp at ap;subst ap;exact Conc.ways_send_none ha1 Y hp0)
         refine Fin.next (hst.trans hrt) (hO _ W1 B _ qs ρ ρr ρs' x0 _ L Ls buf A n s q tm (k+2) 0 (.pre k R J F al hy) (.park S1 rc lc (by rw [<-p,lY];exact Y)) ⟨a,ha1,p⟩ Z N G hF' hH' (af _) (by simp [Q]) ?_ hP1)
         have:=lv (parked s1 #[scase D.c v z] .send) #[] (fun E f=>by simp at f);rw [Array.append_empty] at this;exact this
      .have hev:=j7 S'.sim m.ev D.k xk.frame.fn xk.frame.place;have hrt:=nU (sl:=B) (i:=D.k) hi (show stepG P (D.k==0) xk (W.at d)=_ by rw [hkk];exact hg) cv;exact Fin.next (hst.trans hrt) (hO _ W1 B _ qs ρ ρr ρs' x0 _ L Ls buf A n s q tm f1 1 RP1 (.run S') r1 Z N G hF' hH' (by rw [sN O.k0];exact h0) (by simp [Q]) (hL.put (fun E f=>(hev E f).2.2.1) (by simp) (fun j hj T=>sN (fun e=>T e.symm))) (hP.symm.app m.le hF'.symm hsz hev).symm)
     .obtain ⟨a,ha1,p⟩:=r;have hlt:D.c<W.heap.size:=(eS ha1).1;have c0:Ls=D.L:=by
       obtain ⟨n0,b0,s0,q0,ca,k1,k2⟩:=S.row;rw [<-k2];exact (O.ts hs Vs b6 _ _ _ _ _ _ k1).2
      have bv:buf=L:=by
       have:A++buf=A++L:=by rw [<-N,<-G,c0]
       exact List.append_cancel_left this
      obtain ⟨g',c4,c3,hg,mQ,hQ⟩:=O.close hs Vs ρs xk (W.at d) b6 ((c0▸S).stays rfl (fun _ _ _ _=>rfl) rfl) n a s q tm ha1;have hrt:=runT_crowd_go (P:=P) (sl:=B) (i:=D.k) hi (show stepG P (D.k==0) xk (W.at d)=_ by rw [hkk];exact hg);have hw:∀o,woken P xk g' (eb (W.at d) D.c n a s q tm) o=o.again (eb (W.at d) D.c n a s q tm):=fun o=>by
       unfold Conc.woken;rw [c4,c3];rfl
      have bk:kO (eb (W.at d) D.c n a s q tm) D.c n L true s q tm:=by
       have:=dH (W.at d) D.c n a true s q tm hlt;rw [p,bv] at this;exact this
      have cm:MemOp.ofEvents D.k xk.frame.fn xk.frame.place #[⟨.obj D.c,false,true⟩,⟨.obj D.c,true,true⟩]=#[{g:=D.k,fn:=xk.frame.fn,pos:=xk.frame.place,act:=.access ⟨.obj D.c,false,true⟩}]++#[{g:=D.k,fn:=xk.frame.fn,pos:=xk.frame.place,act:=.close D.c}]:=by rw [Conc.ofEvents_eq];simp [MemAct.ofEvent]
      rw [cm] at hrt;have a6:∀E∈(#[{g:=D.k,fn:=xk.frame.fn,pos:=xk.frame.place,act:=.access ⟨.obj D.c,false,true⟩}]++#[{g:=D.k,fn:=xk.frame.fn,pos:=xk.frame.place,act:=.close D.c}]:Trace),E.act≠.mark .disable/\E.act≠.mark .enable:=fun E f=>by
       simp at f;rcases f with rfl|rfl<;>exact ⟨by simp,by simp⟩
      have hP1:=(hP.symm.app (u:=#[{g:=D.k,fn:=xk.frame.fn,pos:=xk.frame.place,act:=.access ⟨.obj D.c,false,true⟩}]) (Ren.le_refl _) hF.symm (lR _) (fun E f=>by
       simp at f;subst f;refine ⟨rfl,hlt,⟨by simp,by simp⟩,fun x hx=>?_⟩;simp only [MemAct.touch?,oI] at hx;subst hx;exact ⟨D.cs,S.pair,(fun h=>by cases h),(fun h=>by simp at h)⟩)).symm
      have hPC:=hP1.close (y:={g:=D.k,fn:=xk.frame.fn,pos:=xk.frame.place,act:=.close D.c}) ⟨rfl,rfl⟩ hlt;have a9:(eb (W.at d) D.c n a s q tm).heap.size=W.heap.size:=ce _ _ _ _ _ _ _ _;have b7:((gs.map (woken P xk g' (eb (W.at d) D.c n a s q tm))).setIfInBounds D.k g').size=gs.size:=by simp
      have a7:Lv P (fun _=>False) (t++(#[{g:=D.k,fn:=xk.frame.fn,pos:=xk.frame.place,act:=.access ⟨.obj D.c,false,true⟩}]++#[{g:=D.k,fn:=xk.frame.fn,pos:=xk.frame.place,act:=.close D.c}])) ((gs.map (woken P xk g' (eb (W.at d) D.c n a s q tm))).setIfInBounds D.k g') (upd qs D.k mQ):=by
       refine ⟨fun j y hj _ hy=>?_,fun j hj=>?_⟩
       .rw [bz t j _ a6];by_cases T:D.k=j
        .subst T;rw [sS (by simpa using Q)] at hy;cases hy;rw [upd_same,hP.hq];exact hQ
        .rw [sN T,Array.getElem?_map] at hy;obtain ⟨z,hz,rfl⟩:=Option.map_eq_some_iff.1 hy;have hq:=hL.old j z hj (fun e=>T e.symm) hz;rw [fO (jH hq _),upd_ne qs mQ (Ne.symm T)];exact hq
       .rw [bz t j _ a6];exact hL.above j (by rw [b7] at hj;exact hj)
      have I:((gs.map (woken P xk g' (eb (W.at d) D.c n a s q tm))).setIfInBounds D.k g')[0]?=some (x0.again (eb (W.at d) D.c n a s q tm)):=by
       rw [sN O.k0,Array.getElem?_map,h0];simp only [Option.map_some,hw]
      obtain ⟨pc,be⟩:∃pc,PhC D.c pc ρs (eb (W.at d) D.c n a s q tm).heap.size (t++(#[{g:=D.k,fn:=xk.frame.fn,pos:=xk.frame.place,act:=.access ⟨.obj D.c,false,true⟩}]++#[{g:=D.k,fn:=xk.frame.fn,pos:=xk.frame.place,act:=.close D.c}])):=by
       rw [a9,<-Array.append_assoc];exact ⟨_,hPC⟩
      have U:∀b,b≠D.c->(eb (W.at d) D.c n a s q tm).heap[b]?=W.heap[b]?:=fun b hb=>aG _ _ _ _ _ _ _ _ hb
      refine Fin.next (hst.trans hrt) ?_
      cases RP with
      | @run h' _ V' _ R J F=>
       have b2:x0.again (eb (W.at d) D.c n a s q tm)=x0:=Conc.again_running _ (.inl R.run);rw [b2] at I;exact ar _ _ B _ _ ρ ρr ρs h' x0 V' L n s q tm _ (R.other rfl U ⟨a,ha1,p⟩ bk) J F (fun v hv=>by rw [G];simp [hv]) bk hF (hH.at d).out.shut (fun y b k=>by rw [a9];exact (S.sim.lt k).2) I a7 be
      |park C hb _ _=>rw [hb] at bv;cases bv
      | @pre h' g1 _ V' _ k R J F al hy=>
       have b2:x0.again (eb (W.at d) D.c n a s q tm)=x0:=Conc.again_running _ (.inl (hy.status R.run));rw [b2] at I;exact yD ar J F (fun v hv=>by rw [G];simp [hv]) hF al.1 k _ _ B _ _ x0 (R.other rfl U ⟨a,ha1,p⟩ bk) (hy.rely (U _ al.2)) bk (hH.at d).out.shut (fun y b k=>by rw [a9];exact (S.sim.lt k).2) I a7 be
      | @last c2 b5 g1 h' hr'' V1' Vr1' V' Vr'' z' sh C hb F=>
       obtain ⟨a2,hr2,bq⟩:=bk;rw [Conc.again_recv_closed hr2] at I;exact ve O F (sumTo _ (upd qs D.k mQ)) _ _ B _ _ (lR _) ⟨C.at1.other rfl U ⟨a,ha1,p⟩ ⟨a2,hr2,bq⟩,C.sh,C.atc,C.rc,C.rcr⟩ ⟨a2,hr2,bq⟩ (hH.at d).out.shut I a7 be
   .have b4:∀j o,(j=0\/j=D.k)->gs[j]?=some o->o.again (W.at d)=o:=fun j o hj ho=>by
     rcases hj with rfl|rfl
     .rw [h0] at ho;cases ho;exact RP.again (w:=W.at d) r
     .rw [hk] at ho;cases ho;exact SP.again (w:=W.at d) r
    obtain ⟨ab,q',ops,e1,e2,e3,e4,e5,e6,-⟩:=slip (K:=fun i=>i=D.k) hL hP (fun t i fn pos es hi hk h hm=>h.mute hi hk hm) hi hx (by omega) bd b4 hst;exact Fin.next e1 (ih _ (by omega) ab (W.at d) B (t++ops) q' ρ ρr ρs x0 xk f1 f2 (RP.stays rfl (fun _ _ _ _=>rfl) (fun _ _ _ _=>rfl) rfl) (SP.stays rfl (fun _ _ _ _=>rfl) rfl) r hF (hH.at d) ((e3 0 (.inl rfl)).trans h0) ((e3 D.k (.inr rfl)).trans hk) e4 e5 (lR _))
theorem E1 (O:wJ P D Post){hr:Wj}{Vr:Wz}(hD:Dem P.alt D.Nr D.Tr hr Vr):∀hs Vs,Dem P.alt D.Ns D.Ts hs Vs->iK P D Post hr Vr hs Vs:=by
 induction hD with
 | @stop g w t=>
  have hcl:=sB O (.stop (N:=D.Nr) t);obtain ⟨h1,h2,h3⟩:=O.tr g w t;have hls:∀τ d,∃a Vr',LS P.alt g (w.on τ d) a Vr':=fun τ d=>by
   obtain ⟨_,_,_,_,_,h',V',e,l⟩:=h3 τ d;exact ⟨h',V',.comm e l⟩
  have hn:∀τ d a Vr',LS P.alt g (w.on τ d) a Vr'->(∀hs Vs,Dem P.alt D.Ns D.Ts hs Vs->iK P D Post a Vr' hs Vs)\/((∀n b s q tm,w.heap[D.cr]?=some (.chan n b true s q tm)->b.toList=[])/\∃h1 cc s V1 es,stepG P.alt true g (w.on τ d)=.comm h1 cc true s V1 es):=fun τ d a Vr' _=>.inr ⟨h2,by
   obtain ⟨_,_,_,_,_,h',V',e,l⟩:=h3 τ d;exact ⟨_,_,_,_,_,e⟩⟩
  intro hs Vs k;induction k with
  |stop h=>exact m8 O (.stop h) h1 hls hn hcl (.inr h)
  |step o m c hnx ih=>exact m8 O (.step o m c hnx) h1 hls hn hcl (.inl ⟨O.ns _ _ o,fun τ d=>⟨c τ d,fun f Vs' l=>⟨hnx τ d f Vs' l,ih τ d f Vs' l⟩⟩⟩)
 | @step g w o t c hnx p=>
  have hcl:=sB O (.step o t c hnx);intro hs Vs k;induction k with
  |stop h=>exact m8 O (.stop h) (O.nr g w o) c (fun τ d a Vr' l=>.inl (p τ d a Vr' l)) hcl (.inr h)
  |step r m i j ih=>exact m8 O (.step r m i j) (O.nr g w o) c (fun τ d a Vr' l=>.inl (p τ d a Vr' l)) hcl (.inl ⟨O.ns _ _ r,fun τ d=>⟨i τ d,fun f Vs' l=>⟨j τ d f Vs' l,ih τ d f Vs' l⟩⟩⟩)
end
section
variable {P:Wx} [Two P] {X:List Wv×List Wv} {A:Nat->Prop} {G:FuncId->Bool} {g g':Wj} {w w':Wz}
theorem j4.grow (D:bF P)(B:bL P)(hG:G Gr=false){cs:Nat}(hA:A cs)(h:j4 P X A G g w)(hl:LS P g w g' w'){n:Nat}{b:Array Wq}{cl:Bool}{s q:Nat}{tm:Bool}(hr:w.heap[cs]?=some (.chan n b cl s q tm)):
  ∃o b' a s' q' j,w'.heap[cs]?=some (.chan o b' a s' q' j)/\((b.toList <+:b'.toList/\(cl=true->a=true))\/a=true):=by
 obtain ⟨⟨hrn,ρ,k,u,m,S,C,hE,ho,hwi,⟨hch,t,x⟩,hold,hmk⟩,hb⟩:=h;have p:Base X g.frame k.callers:=fun e=>hb (m.callers.tail e)
 have sf:=jc D hE B C true m p (S.onR w.tape w.drawn) (fun i=>rfl);obtain ⟨b0,z⟩:=t cs hA;have row:∀ {ρ':Ren} {v v':Wz},Reach ρ ρ' w (u.on w.tape w.drawn) v v'->∃o b' a s' q' j,v.heap[cs]?=some (.chan o b' a s' q' j)/\((b.toList <+:b'.toList/\(cl=true->a=true))\/a=true):=fun R=>by
  rcases R.chs.row cs b0 (by rw [hch];exact hA) z with ⟨e,-⟩|⟨-,o,b',s',q',j,e⟩
  .exact ⟨_,_,_,_,_,_,e.trans hr,.inl ⟨List.prefix_refl _,fun h=>h⟩⟩
  .exact ⟨_,_,_,_,_,_,e,.inr rfl⟩
 rcases sf.rel with ⟨h1,-⟩|⟨-,h2⟩|⟨f,_,_,_,_,_,_,_,_,_,_,_,A⟩
 rotate_left 2
 .exact absurd A.mark (hmk f)
 .cases hl with
  |go h hr hd=>
   rw [h] at h1;obtain ⟨⟨d,f,e,-⟩,-⟩:=h1;rw [hd] at e;cases e
  |comm h _=>rw [h] at h1;exact h1.elim
 .cases hl with
  |go h hr hd=>
   rw [h] at h2;generalize stepG P true k (u.on w.tape w.drawn)=y at h2;cases h2 with
   |go es ρ' R hg he=>exact row R
  | @comm g1 c s1 w1 es _ _ h hc=>
   rw [h] at h2;generalize stepG P true k (u.on w.tape w.drawn)=y at h2;cases h2 with
   | @comm _ k1 _ c' hC _ hs hrun _ u1 _ es' ρ' R hg hcc he _=>
    have l:c.send≠none:=fun e=>by have:=hC.2 e;rw [x,hG] at this;cases this
    obtain ⟨n1,b1,cl1,s1',q1,tm1,e1,e2⟩:=row R;cases hc with
    |recv q1 q2 q3 q4=>exact absurd q2 l
    |shut q1 q2 q3=>exact absurd q2 l
    |dead q1 q2 q3=>exact ⟨_,_,_,_,_,_,e1,e2⟩
    | @send r cap sent rcvd buf tm0 v0 q1 q2 q3 q4=>
     by_cases e:r=cs
     .subst e;rw [e1] at q3;cases q3;have hlt:=(eS e1).1;refine ⟨_,_,_,_,_,_,sS hlt,?_⟩;rcases e2 with ⟨k1,k2⟩|k
      .exact .inl ⟨k1.trans (by rw [Array.toList_push];exact List.prefix_append _ _),k2⟩
      .cases k
     .exact ⟨_,_,_,_,_,_,by simp only [sN e];exact e1,e2⟩
end
theorem iL {α:Type}{p b:α->Bool}(hp:∀a,p a=true->b a=true){l:Array α}(h:l.all p=true):l.all b=true:=by
 rw [Array.all_eq_true] at h ⊢;exact fun i hi=>hp _ (h i hi)
section
variable {P:Wx} {F F':FuncId->Bool} (hF:∀f,F f=true->F' f=true)
include hF
theorem ll {x:Operand}(h:okX P F x=true):okX P F' x=true:=by
 cases x with
 |func f=>exact hF f h
 |_=>exact h
theorem wO {b:Builtin}(h:Cw F b=true):Cw F' b=true:=by
 unfold Cw at h ⊢;rw [Bool.or_eq_true] at h ⊢;refine h.imp id (fun h=>?_);cases b<;>first|exact hF _ h|exact h
theorem lm {c:Call}(h:jY P F c=true):jY P F' c=true:=by
 unfold jY at h ⊢;rw [bT] at h ⊢;refine ⟨?_,iL (fun _=>ll hF) h.2⟩;have h1:=h.1;cases hc:c.callee with
 |builtin b=>rw [hc] at h1;simp only [bT] at h1 ⊢;exact ⟨wO hF h1.1,h1.2⟩
 |value f=>rw [hc] at h1;exact ll hF h1
 |invoke a b=>rw [hc] at h1;exact h1
theorem vg {c:Call}(h:kT P F c=true):kT P F' c=true:=by
 unfold kT at h ⊢;rw [Bool.or_eq_true,bT] at h ⊢;refine h.imp (lm hF) (fun h=>⟨?_,iL (fun _=>ll hF) h.2⟩);have h1:=h.1;split at h1
 .rw [bT] at h1 ⊢;exact ⟨hF _ h1.1,h1.2⟩
 .cases h1
theorem wP {o:Op}(h:gr P F o=true):gr P F' o=true:=by
 have hx:∀ {x:Operand},okX P F x=true->okX P F' x=true:=fun h=>ll hF h
 have ho:∀ {x:Option Operand},x.all (okX P F)=true->x.all (okX P F')=true:=fun {x} h=>by
  cases x with
  |none=>rfl
  |some x=>exact hx h
 cases o with
 |makeFunc f a c=>
  cases f with
  |func f=>
   simp only [gr,bT] at h ⊢;exact ⟨⟨hF _ h.1.1,iL (fun _=>hx) h.1.2⟩,iL (fun _=>hx) h.2⟩
  |_=>exact h
 |makeMap t r=>cases r<;>exact h
 |call c=>exact vg hF h
 |defer c=>simp only [gr,bT,Bool.or_eq_true] at h ⊢;exact ⟨h.1.imp (hF _) (hF _),lm hF h.2⟩
 |go c=>simp only [gr,bT] at h ⊢;exact ⟨hF _ h.1,lm hF h.2⟩
 |slice t x lo hi mx=>simp only [gr,bT] at h ⊢;exact ⟨⟨⟨hx h.1.1.1,ho h.1.1.2⟩,ho h.1.2⟩,ho h.2⟩
 |build t ps=>exact iL (fun _=>hx) h
 |buildSlice t n ps=>exact iL (fun _=>hx) h
 |recv t x b=>simp only [gr,bT] at h ⊢;exact ⟨hF _ h.1,hx h.2⟩
 |makeChan t x=>simp only [gr,bT] at h ⊢;exact ⟨hF _ h.1,hx h.2⟩
 |send a x=>simp only [gr,bT] at h ⊢;exact ⟨⟨hF _ h.1.1,hx h.1.2⟩,hx h.2⟩
 |pick a b c=>simp only [gr,bT] at h ⊢;exact ⟨⟨hx h.1.1,hx h.1.2⟩,hx h.2⟩
 |binOp op t a x r=>simp only [gr,bT] at h ⊢;exact ⟨⟨hx h.1.1,hx h.1.2⟩,h.2⟩
 |store t a x=>simp only [gr,bT] at h ⊢;exact ⟨hx h.1,hx h.2⟩
 |makeSlice t a x=>simp only [gr,bT] at h ⊢;exact ⟨hx h.1,hx h.2⟩
 |indexAddr t a x=>simp only [gr,bT] at h ⊢;exact ⟨hx h.1,hx h.2⟩
 |index t a x=>simp only [gr,bT] at h ⊢;exact ⟨hx h.1,hx h.2⟩
 |convert s d x=>simp only [gr,bT] at h ⊢;exact ⟨h.1,hx h.2⟩
 |lookup t x i b=>simp only [gr,bT] at h ⊢;exact ⟨⟨h.1.1,hx h.1.2⟩,hx h.2⟩
 |mapUpdate t m k x=>simp only [gr,bT] at h ⊢;exact ⟨⟨⟨h.1.1.1,hx h.1.1.2⟩,hx h.1.2⟩,hx h.2⟩
 |_=>first|exact hx h|exact h
theorem fj:∀ {c:Code},aA P F c=true->aA P F' c=true:=by
 intro c;induction c with
 |region id ops d=>intro h;exact iL (fun _=>wP hF) h
 |seq a b i e=>intro h;simp only [aA,bT] at h ⊢;exact ⟨i h.1,e h.2⟩
 |cond c a b i e=>intro h;simp only [aA,bT] at h ⊢;exact ⟨⟨ll hF h.1.1,i h.1.2⟩,e h.2⟩
 |block id a ih=>intro h;exact ih h
 |loop a ih=>intro h;exact ih h
 |scope a ih=>intro h;exact ih h
 |rangeFunc f ps a b i e=>intro h;simp only [aA,bT] at h ⊢;exact ⟨⟨ll hF h.1.1,i h.1.2⟩,e h.2⟩
 |_=>intro h;exact h
end
structure Ren.sub' (ρ ρ':Ren):Prop where
 rel:∀a b,ρ a b->ρ' a b
 prog:ρ'.prog=ρ.prog
 F:∀f,ρ.F f=true->ρ'.F f=true
 bad:ρ'.bad=ρ.bad
section
variable {ρ ρ':Ren} (l:ρ.sub' ρ')
include l
theorem RA.re {a a':Ww}(h:RA ρ a a'):RA ρ' a a':=⟨l.rel _ _ h.1,h.2⟩
theorem RAo.re {a a':Option Ww}(h:RAo ρ a a'):RAo ρ' a a':=by
 cases h with
 |none=>exact .none
 |some h=>exact .some (RA.re l h)
theorem RNo.re {a a':Option Nat}(h:RNo ρ a a'):RNo ρ' a a':=by
 cases h with
 |none=>exact .none
 |some h=>exact .some (l.rel _ _ h)
theorem RFn.re {a a':Fn}(h:RFn ρ a a'):RFn ρ' a a':=by
 cases h with
 |func f h=>exact .func f (l.F _ h)
 |yield h=>exact .yield (l.rel _ _ h)
theorem RV.re {v v':Wq}(h:RV ρ v v'):RV ρ' v v':=by
 induction h with
 |bool b=>exact .bool b
 |int k n=>exact .int k n
 |string s=>exact .string s
 |pointer h=>exact .pointer (RAo.re l h)
 |slice n c h=>exact .slice n c (RAo.re l h)
 |map h=>exact .map (RNo.re l h)
 |chan h=>exact .chan (RNo.re l h)
 |func hf ha hc _ _ i1 i2=>exact .func (RFn.re l hf) ha hc i1 i2
 |nilFunc=>exact .nilFunc
 |iface t _ ih=>exact .iface t ih
 |nilIface=>exact .nilIface
 |agg hc _ ih=>exact .agg hc ih
 |tuple hc _ ih=>exact .tuple hc ih
 |dead v' h=>exact .dead v' h
 |odd n s a c hn=>exact .odd n s a c (hn.trans l.bad.symm)
theorem RVs.re {c c':Array Wq}(h:RVs ρ c c'):RVs ρ' c c':=⟨h.size,fun i v v' h1 h2=>RV.re l (h.at_ i v v' h1 h2)⟩
theorem RT.re {a a':Target}(h:RT ρ a a'):RT ρ' a a':=by
 cases h with
 |fn hf hc=>exact .fn (RFn.re l hf) (RVs.re l hc)
 |nil=>exact .nil
 |builtin b hb a ha t cs=>exact .builtin b (wO l.F hb) a (by rw [l.prog];exact ha) t cs
 |collected h=>exact .collected (l.rel _ _ h)
theorem RD.re {a a':Deferred}(h:RD ρ a a'):RD ρ' a a':=by
 cases h with
 |mk h1 h2=>exact .mk (RT.re l h1) (RVs.re l h2)
 |odd n v a s c a' hn=>exact .odd n v a s c a' (hn.trans l.bad.symm)
theorem RDs.re {a a':List Deferred}(h:RDs ρ a a'):RDs ρ' a a':=by
 induction h with
 |nil=>exact .nil
 |cons h _ hS ih=>exact .cons (RD.re l h) ih (hS.imp id (fun k=>by
  rw [Bool.or_eq_true] at k ⊢;exact k.imp (l.F _) (l.F _)))
theorem RL.re {a a':Loop}(h:RL ρ a a'):RL ρ' a a':=⟨h.state,h.pending,h.fn,RVs.re l h.tmps,h.params,h.assign,h.body,l.rel _ _ h.defers,by rw [l.prog];exact fj l.F h.okA,by rw [l.prog];exact fj l.F h.okBo,fun c e=>by rw [l.prog];exact fj l.F (h.okP c e)⟩
theorem RMs.re {a a':List MapEntry}(h:RMs ρ a a'):RMs ρ' a a':=by
 induction h with
 |nil=>exact .nil
 |cons b hk h _ ih=>exact .cons b (RV.re l hk) (RV.re l h) ih
theorem RO.re (hb:ρ'.F mh=ρ.F mh){a a':Obj}(h:RO ρ a a')(hc:a.isChan=true->RO ρ' a a'):RO ρ' a a':=by
 cases h with
 |cells e hz h=>exact .cells e (by rw [hb];exact hz) (RVs.re l h)
 |chan=>exact hc rfl
 |map c h=>exact .map c (RMs.re l h)
 |stringIter s n=>exact .stringIter s n
 |loop h=>exact .loop (RL.re l h)
 |deferred h=>exact .deferred (RDs.re l h)
 |taken=>exact .taken
 |number b h=>exact .number b (RA.re l h)
 |dead _ h=>exact .dead _ h
variable {P:Wx}
theorem RI.re {i i':Item}(h:RI P ρ i i'):RI P ρ' i i':=by
 cases h with
 |code h=>exact .code (fj l.F h)
 |inBlock id=>exact .inBlock id
 |inLoop h=>exact .inLoop (fj l.F h)
 |inScope h=>exact .inScope (fj l.F h)
 |inRegion k h=>exact .inRegion k (iL (fun _=>wP l.F) h)
 |regionEnd a b=>exact .regionEnd a b
 |inRangeFunc h=>exact .inRangeFunc (l.rel _ _ h)
 |endRangeFunc h=>exact .endRangeFunc (l.rel _ _ h)
 |beginRound=>exact .beginRound
theorem RIs.re {k k':List Item}(h:RIs P ρ k k'):RIs P ρ' k k':=by
 induction h with
 |nil=>exact .nil
 |cons h _ ih=>exact .cons (RI.re l h) ih
theorem RPn.re {k k':List PanicEntry}(h:RPn ρ k k'):RPn ρ' k k':=by
 induction h with
 |nil=>exact .nil
 |cons r g h _ ih=>exact .cons r g (RV.re l h) ih
theorem RM.re {m m':FrameMode}(h:RM ρ m m'):RM ρ' m m':=by
 cases h with
 |run=>exact .run
 |returning=>exact .returning
 |panicking h=>exact .panicking (RPn.re l h)
theorem RFr.re {f f':Wv}(h:RFr P ρ f f'):RFr P ρ' f f':=⟨h.fn,RVs.re l h.tmps,RIs.re l h.todo,RDs.re l h.defers,RM.re l h.mode,h.early,RNo.re l h.round⟩
theorem RFs.re {X Y:List Wv×List Wv}(a:RFs P ρ' Y X.1 X.2)(h2:2<=X.1.length)(hne:Y.2.length<X.2.length){k k':List Wv}(h:RFs P ρ X k k'):RFs P ρ' Y k k':=by
 induction h with
 |base=>exact a
 |cons h hk hl ih=>
  refine .cons (RFr.re l h) ⟨fun _=>hk.1 (.inr h2),fun e=>?_⟩ ih;have:=hl.len;rw [e] at this;omega
theorem RGo.re {X Y:List Wv×List Wv}(a:RFs P ρ' Y X.1 X.2)(h2:2<=X.1.length)(hne:Y.2.length<X.2.length){g g':Wj}(h:RGo P ρ X g g'):RGo P ρ' Y g g':=by
 refine ⟨RFr.re l h.frame,RFs.re l a h2 hne h.callers,⟨fun _=>h.kind.1 (.inr h2),fun e=>?_⟩,h.status,h.dying,h.offers⟩;have:=h.callers.len;rw [e] at this;omega
end
section
open Go.Conc (crowd Past EvL Deaf QuitsD)
variable {P:Wx} [Two P]
def Ren.back (ρ ρ0:Ren):Ren where
 rel:=ρ.rel
 fn:=ρ.fn
 inj:=ρ.inj
 prog:=ρ.prog
 F:=ρ0.F
 old:=fun _=>False
 ch:=fun _=>False
 loose:=false
 wide:=false
 tight:=fun _=>rfl
 pin:=ρ.pin
 bad:=ρ.bad
 noM:=ρ.noM
theorem AH {D:PhD P}{Post:Wq->Wz->Prop}{ρ0:Ren}(hR0:∀a b,ρ0 a b->D.R0 a b)(l:GId P ρ0)(hE:ge P ρ0.F)(hS:ρ0.F gu=false)(hBM:ρ0.F mi=false)(hF:∀f,D.Fp f=true->ρ0.F f=true)(m:ρ0.F mh=D.Fp mh)(u:ρ0.bad=D.U.bad)(hX:RFs P ρ0 ([trap P.alt],[]) D.X.1 D.X.2)(h2:2<=D.X.1.length)(h3:0<D.X.2.length)
  (i:∀h V,LSs P.alt D.T D.h0 D.V0 h V->pk P D.U ρ0.F [] Post h V):
  ∀ρ h g V W n s q tm gs sl t qs,Side P D.X ρ h g V W D.cV D.c []->AG D ρ V W->Kp D.U W/\Off D.U ρ->W.heap[D.c]?=some (.chan n #[] true s q tm)->LSs P.alt D.T D.h0 D.V0 h V->gs[0]?=some g->Lv P (fun _=>False) t gs qs->Past iu W.heap.size t->Fin P Post gs W sl t:=by
 intro ρ h g V W n s q tm gs sl t qs S O y p hp h0 z hP;have e:ρ0.prog=ρ.prog:=l.prog.trans S.gid.prog.symm;have l0:ρ0.sub' (ρ.back ρ0):=⟨fun a b k=>O.base.1 a b (hR0 a b k),e.symm,fun f k=>k,y.2.2.2.2.trans u.symm⟩;have l1:ρ.sub' (ρ.back ρ0):=⟨fun a b k=>k,rfl,fun f k=>hF f (by rw [<-O.base.2];exact k),rfl⟩;have x:RFs P (ρ.back ρ0) ([trap P.alt],[]) D.X.1 D.X.2:=by
  have key:∀ {k k':List Wv},RFs P ρ0 ([trap P.alt],[]) k k'->RFs P (ρ.back ρ0) ([trap P.alt],[]) k k':=fun h=>by
   induction h with
   |base=>exact .base
   |cons h hk _ ih=>exact .cons (RFr.re l0 h) hk ih
  exact key hX
 refine i h V hp gs g W sl t qs (ρ.back ρ0) h0 z hP ⟨RGo.re l1 x h2 h3 S.go,⟨fun a b d=>?_,fun a k=>k.elim,fun c k=>k.elim,S.sim.os,fun hb a c0 hp=>S.sim.pin (by rw [O.base.2,<-m];exact hb) a c0 hp⟩,⟨fun g hg=>O.base.1 _ _ (hR0 _ _ (l.glob g hg)),S.gid.prog,l.code,l.alt,fun _ _ k=>k,l.same,l.size,l.apart⟩,hE,hS,rfl,⟨rfl,rfl⟩,⟨hBM,fun a b o d ho hc=>?_⟩,y⟩
 rotate_left
 .by_cases ha:a=D.cV
  .subst ha;obtain ⟨v,r,s1,q1,j,k1,k2⟩:=S.row;rw [k1] at ho;cases ho;have hb:r=#[]:=Array.toList_inj.1 (by simpa using k2);subst hb;exact ⟨_,_,_,_,rfl⟩
  .obtain ⟨v,s1,q1,j,n2,s2,q2,k1,k2⟩:=O.rest a b (O.all a b o d ho hc) d ha;rw [k1] at ho;cases ho;exact ⟨_,_,_,_,rfl⟩
 obtain ⟨o,o',e1,e2,e3⟩:=S.sim.obj a b d;refine ⟨o,o',e1,e2,RO.re l1 (by rw [O.base.2];exact m) e3 (fun hc=>?_)⟩;by_cases ha:a=D.cV
 .subst ha;obtain rfl:b=D.c:=ρ.fn _ _ _ d S.pair;obtain ⟨v,r,s1,q1,j,k1,k2⟩:=S.row;rw [k1] at e1;cases e1;rw [p] at e2;cases e2;have hb:r=#[]:=Array.toList_inj.1 (by simpa using k2);subst hb;cases e3;exact .chan _ _ _ _ _ _ _ _ _ (.inr RVs.nil) (.inr rfl)
 .obtain ⟨v,s1,q1,j,n2,s2,q2,k1,k2⟩:=O.rest a b (O.all a b o d e1 hc) d ha;rw [k1] at e1;cases e1;rw [k2] at e2;cases e2;exact .chan _ _ _ _ _ _ _ _ _ (.inr RVs.nil) (.inr rfl)
end
section
open Go.Conc (crowd Past EvL Deaf QuitsD)
def dK (P:Wx):Wv:={(default:Wv) with fn:=P.funcs.size,defers:=[],mode:=.panicking [goexitEntry]}
section
variable {P:Wx}
theorem vh (w:Wz):stepG P false {frame:=dK P,callers:=[],status:=.running,dying:=none} w=.go {frame:=dK P,callers:=[],status:=.finished,dying:=none} w #[]:=by
 have hc:(dK P).catches P=false:=by
  have e:(dK P).todo=[]:=rfl;unfold Frame.catches;rw [e];cases P.funcs[(dK P).fn]?<;>rfl
 have e:stepG P false {frame:=dK P,callers:=[],status:=.running,dying:=none} w=unwind P false (dK P) [] none w:=rfl;rw [e];unfold unwind;simp only [hc];rfl
theorem yE {fr:Wv}{fn:Func}(hf:P.funcs[fr.fn]?=some fn)(hr:fn.results=#[])(hm:fr.mode=.returning)(hd:fr.defers=[])(w:Wz):stepG P false {frame:=fr,callers:=[dK P],status:=.running,dying:=none} w=.go {frame:=dK P,callers:=[],status:=.running,dying:=none} w #[]:=by
 have e1:(results fn fr.tmps).runT P w #[]=(.ok (.tuple #[]) w,#[]):=by
  unfold results;rw [hr,Array.mapM_eq_mapM_toList];rfl
 have e2:doReturn P false fr [dK P] none (.tuple #[]) w=.go {frame:=dK P,callers:=[],status:=.running,dying:=none} w #[]:=by
  unfold doReturn;cases h:fr.kind<;>rfl
 simp only [stepG,hm,unwind,hd,hf,e1,e2,fN,bY]
theorem yF {fr:Wv}{fn:Func}(hf:P.funcs[fr.fn]?=some fn)(hr:fn.results=#[])(hm:fr.mode=.returning)(hd:fr.defers=[]):QuitsD P 2 0 {frame:=fr,callers:=[dK P],status:=.running,dying:=none}:=
 .inr ⟨rfl,_,#[],by simp,yE hf hr hm hd,.inr ⟨rfl,_,#[],by simp,vh,rfl,rfl⟩⟩
theorem sC {c n s q:Nat}{b:Array Wq}{tm:Bool}{W:Wz}(at_:Array TypeId)(t:TypeId)(cs:Array Bool)(h:W.heap[c]?=some (.chan n b false s q tm)):(invoke (.builtin .close at_ t cs) #[.chan (some c)]).runT P W #[]=(.ok (.value (.tuple #[])) (eb W c n b s q tm),#[⟨.obj c,false,true⟩,⟨.obj c,true,true⟩]):=by
 show Sem.runT P (Sem.getObj c _) W #[]=_;simp only [Sem.runT,h];show Sem.runT P (Sem.setObj c (.chan n b true s q tm) _) W _=_;simp only [Sem.runT,h];rfl
variable [Two P]
def E2 (P:Wx) [Two P](f:FuncId)(cs:Nat)(h:Wj):Prop:=
 h.callers=[trap P.alt]/\h.frame.fn=f/\h.frame.mode=.returning/\∃at_ t k,h.frame.defers=[{target:=.builtin .close at_ t k,args:=#[.chan (some cs)]}]
theorem CU {f:FuncId}{fn:Func}(o:P.funcs[f]?=some fn)(e:fn.results=#[]){ρ:Ren}{h g:Wj}{V W:Wz}{cs c:Nat}{L:List Wq}(S:Snd P ([trap P.alt],[dK P]) ρ h g V W cs c L)(hA:E2 P f cs h){n:Nat}{b:Array Wq}{s q:Nat}{tm:Bool}(i:W.heap[c]?=some (.chan n b false s q tm)):
  ∃g',mayWake P g=true/\g'.status=.running/\stepG P false g W=.go g' (eb W c n b s q tm) #[⟨.obj c,false,true⟩,⟨.obj c,true,true⟩]/\∃m,QuitsD P m 0 g':=by
 obtain ⟨h1,h2,h3,at_,t,k,h4⟩:=hA;have hcs:g.callers=[dK P]:=by
  have hl:=S.go.callers;rw [h1] at hl;generalize hX:(([trap P.alt],[dK P]):List Wv×List Wv)=X at hl;generalize hl0:[trap P.alt]=l at hl;generalize g.callers=l' at hl ⊢;cases hl with
  |base=>rw [<-hX]
  |cons _ _ hl=>
   cases hl0;have:=hl.len1;rw [<-hX] at this;simp at this
 have hm:g.frame.mode=.returning:=by
  have:=S.go.frame.mode;rw [h3] at this;generalize g.frame.mode=x at this;cases this;rfl
 have hd:g.frame.defers=[{target:=.builtin .close at_ t k,args:=#[.chan (some c)]}]:=by
  have:=S.go.frame.defers;rw [h4] at this;generalize g.frame.defers=x at this;cases this with
  | @cons _ d' _ _ hd hl _=>
   cases hl;obtain ⟨tg,r⟩:=d';obtain ⟨ht,ha⟩:=hd;simp only at ht ha;cases ht;have hsz:=ha.size;obtain ⟨l⟩:=r;rcases l with - |⟨x,- |⟨y,l⟩⟩<;>simp at hsz
   have:=ha.at_ 0 _ x rfl rfl;cases this with
   |chan hc=>
    cases hc with
    |some hc=>rw [ρ.fn _ _ _ hc S.pair]
 have a:P.funcs[g.frame.fn]?=some fn:=by rw [<-S.go.frame.fn,h2];exact o
 have d:seen P g.frame.fn #[⟨.obj c,false,true⟩,⟨.obj c,true,true⟩]=#[⟨.obj c,false,true⟩,⟨.obj c,true,true⟩]:=by unfold seen;simp
 obtain ⟨fr,cl,st,p,of⟩:=g;simp only at hcs hm hd a d;subst hcs;have j:p=none:=S.go.dying.2;subst j;refine ⟨{frame:={fr with defers:=[]},callers:=[dK P],status:=.running,dying:=none},?_,rfl,?_,2,yF (fr:={fr with defers:=[]}) a e hm rfl⟩
 .simp only [mayWake,hm]
 .simp only [stepG,hm,unwind,hd];unfold callDeferred;simp only [sC at_ t k i];simp [d,GStep.after]
end
end
section
variable {P:Wx} [Two P]
theorem E3 {U:Outer}{G:FuncId->Bool}{Post:Wq->Wz->Prop}{f page:FuncId}{R:(Nat->Question->Nat)->Nat->Ending->Wz->Prop}(o:G page=false)(q:P.inits.idxOf? f=none)
  (N:∀τ d e u,R τ d e u->e=.returned (.bool true)\/∃t a c r x l,e=.panicked ({v:=.iface t (.func (.func page) a c),recovered:=r,goexit:=x} :: l))
  (p:∀h V ρ g W ρ' W',Ends P.alt f R h V->h.frame.mode=.returning->Rel P U G [] ρ h g V W->ρ.le ρ'->bB ρ' V W'->Kp U W'->Post (.bool true) W'):Leaf P U G (Ends P.alt f R) Post:=by
 intro h g V W ρ L b d;have hT0:=L;obtain ⟨τ,d0,j,d',e,fr,hr,rfl,J,hlv,-⟩:=L;have hcs:g.callers=[]:=RFs.nil_of b.go.callers;obtain ⟨gf,gc,gst,M,go⟩:=g;simp only at hcs;subst hcs;obtain rfl:M=none:=b.go.dying.2;have hfr:=b.go.frame;simp only at hfr;rcases N _ _ _ _ hr with rfl|⟨t,a,c,r,x,l,rfl⟩
 .obtain ⟨hm,hd,hk,fn,hfa,hrun⟩:=hlv;have hm':gf.mode=.returning:=by
   have:=hfr.mode;rw [hm] at this;generalize gf.mode=y at this;cases this;rfl
  have F:gf.defers=[]:=by
   have:=hfr.defers;rw [hd] at this;generalize gf.defers=y at this;cases this;rfl
  obtain ⟨fn2,hf2⟩:∃fn2,P.funcs[fr.fn]?=some fn2:=by
   cases hx:P.funcs[fr.fn]? with
   |some y=>exact ⟨y,rfl⟩
   |none=>rw [(kZ b.gid fr.fn).2 hx] at hfa;cases hfa
  rw [nP b.gid hfa hf2 fr.tmps] at hrun;have hS:bB ρ (V.on j d') (W.at d):=⟨b.sim.obj,b.sim.fix,b.sim.chan,b.sim.os,b.sim.pin⟩;have s:RS P QV ρ (results fn2 fr.tmps) (results fn2 gf.tmps):=pj fn2 hfr.tmps;have n:((results fn2 fr.tmps).runT P.alt (V.on j d') #[]).1=.ok (.bool true) (V.on j d'):=by rw [Sem.runT_fst];exact hrun
  obtain ⟨m1,o1⟩:=qr s (V.on j d') ((W.at d).on j d') #[] #[] ⟨b.sim.obj,b.sim.fix,b.sim.chan,b.sim.os,b.sim.pin⟩ (fun i _=>rfl);have hP1:(results fn2 fr.tmps).runT P (V.on j d') #[]=(results fn2 fr.tmps).runT P.alt (V.on j d') #[]:=by
   rcases o1 with ⟨-,x,u,k,-⟩|⟨k,-⟩
   .rw [n] at k;cases k
   .exact k.symm
  have B:((results fn2 fr.tmps).runT P (V.on W.tape d) #[]).1=.ok (.bool true) (V.on W.tape d):=by
   have m3:=m1.2.2;have hw:((results fn2 fr.tmps).runT P (V.on j d') #[]).1=.ok (.bool true) (V.on j d'):=by rw [hP1];exact n
   have:=m3 W.tape d (fun i hi=>by rw [hw] at hi;simp only [Result.w] at hi;omega);rw [AC] at this;rw [this];show Result.on W.tape d d' ((results fn2 fr.tmps).runT P (V.on j d') #[]).1=_;rw [hw];show Result.ok _ ((V.on j d').on W.tape (d+(d'-d')))=_;rw [Nat.sub_self,Nat.add_zero,AC]
  obtain ⟨-,o2⟩:=qr s (V.on W.tape d) (W.at d) #[] #[] ⟨b.sim.obj,b.sim.fix,b.sim.chan,b.sim.os,b.sim.pin⟩ (fun i _=>rfl);rcases o2 with ⟨⟨x,u,k,-⟩,-⟩|⟨-,ρ',O,S',m,K,-,-,E,-,-⟩
  .rw [B] at k;cases k
  rw [B] at m S';generalize D:(results fn2 gf.tmps).runT P (W.at d) #[]=cr at m S' K E;obtain ⟨r2,es⟩:=cr;simp only at m S' K E;cases m with
  | @ok _ v' _ W' hv=>
   have hv:RV ρ' (.bool true) v':=hv;cases hv;obtain ⟨E0,C,hE2⟩:=E;refine ⟨.bool true,seen P gf.fn es,ρ',V.on W.tape d,W',?_,p _ V ρ _ W ρ' W' hT0 hm b O ⟨S'.obj,S'.fix,S'.chan,S'.os,S'.pin⟩ (b.out.1.keep b.out.2 ⟨K.os,K.output,K.tape,K.size,K.block⟩),S',K.size,fun e he=>hE2 e (by have:=dQ he;rw [C] at this;simpa using this)⟩;have z:P.funcs[gf.fn]?=some fn2:=by rw [<-hfr.fn];exact hf2
   have H:P.inits.idxOf? gf.fn=none:=by rw [<-hfr.fn,J];exact q
   have A:doReturn P true gf [] none (.bool true) W'=.ended (.done (.bool true)) W':=by
    unfold doReturn;have:=hfr.early.2.2;cases I:gf.kind with
    |report=>exact absurd I this
    |_=>simp [H]
   simp only [stepG,hm',unwind,F,z,D,A];simp [GStep.after]
 .obtain ⟨hm,-⟩:=hlv;exfalso;have:=hfr.mode;rw [hm] at this;generalize gf.mode=y at this;cases this with
  |panicking hp=>
   cases hp with
   |cons _ _ hv _=>
    cases hv with
    |iface _ hv=>
     cases hv with
     |func hf _ _ _ _=>
      cases hf with
      |func _ hF=>rw [b.same,o] at hF;cases hF
end
section
open Go.Conc (crowd Past EvL Deaf QuitsD woken awake crowd_pick runT_crowd_go)
open Go.ConcN (sumTo upd sumTo_upd upd_ne upd_same)
variable {P:Wx} {Post:Wq->Wz->Prop}
theorem bD (W:Wz)(a b:Nat):(W.at a).at b=W.at b:=rfl
theorem AI {g g' a:Wj}{W:Wz}(hr:g.status=.running)(h:∀d,stepG P true g (W.at d)=.spawn g' a (W.at d) #[]){ρr ρs:Ren}
  (e:∀ (gs:Array Wj) (sl:Option (Nat×Nat)) (t:Trace) (q:Nat->Nat) (d k:Nat),k≠0->gs[0]?=some g'->gs[k]?=some a->Lv P (fun i=>i=k) t gs q->PhT 0 k ρr ρs W.heap.size t->Fin P Post gs (W.at d) sl t):
  ∀ (gs:Array Wj) (sl:Option (Nat×Nat)) (t:Trace) (q:Nat->Nat) (d:Nat),gs[0]?=some g->Lv P (fun _=>False) t gs q->Past iu W.heap.size t->Fin P Post gs (W.at d) sl t:=by
 intro gs sl t q d h0 f hP;obtain ⟨M,hM⟩:∃M,sumTo gs.size q<=M:=⟨_,lR _⟩;induction M using Nat.strongRecOn generalizing gs sl t q d with
 |_ M u=>
  obtain ⟨i,x,d',c,hi,hx,hst⟩:=crowd_pick (P:=P) (w:=W.at d) (sl:=sl) (iI f h0 hr) ⟨0,g,h0,hr⟩;rw [bD] at hst;have hlt:0<gs.size:=(eS h0).1;rcases Nat.eq_zero_or_pos i with rfl|m
  .obtain rfl:x=g:=by rw [h0] at hi;exact (oJ hi).symm
   have hrt:=Conc.runT_crowd_spawn (P:=P) (sl:=c) (i:=0) hi (show stepG P (0==0) x (W.at d')=_ from h d');have n:((MemOp.ofEvents 0 x.frame.fn x.frame.place #[]).push {g:=0,fn:=x.frame.fn,pos:=x.frame.place,act:=.go gs.size} |>.push {g:=gs.size,fn:=a.frame.fn,pos:=x.frame.place,act:=.start})=#[{g:=0,fn:=x.frame.fn,pos:=x.frame.place,act:=.go gs.size},{g:=gs.size,fn:=a.frame.fn,pos:=x.frame.place,act:=.start}]:=rfl;rw [n] at hrt;have b:∀r∈(#[{g:=0,fn:=x.frame.fn,pos:=x.frame.place,act:=.go gs.size},{g:=gs.size,fn:=a.frame.fn,pos:=x.frame.place,act:=.start}]:Trace),r.act≠.mark .disable/\r.act≠.mark .enable:=fun r l=>by
    simp at l;rcases l with rfl|rfl<;>exact ⟨by simp,by simp⟩
   refine Fin.next (hst.trans hrt) (e _ c _ q d' gs.size (by omega) (by rw [gP,if_neg (by simp;omega)];simp [hlt]) (by rw [gP,if_pos (by simp)]) ⟨fun j y o s hy=>?_,fun j o=>?_⟩ (PhT.start hP (by omega) (f.above gs.size (lR _)) ⟨rfl,rfl⟩ ⟨rfl,rfl⟩))
   .rw [bz t j _ b];refine f.old j y o (fun k=>k) ?_;simp only [gP,Array.size_setIfInBounds] at hy;rw [if_neg s,sN (by omega)] at hy;exact hy
   .rw [bz t j _ b];exact f.above j (by simp at o;omega)
  .obtain ⟨p,q',ops,e1,e2,e3,e4,e5,e6,-⟩:=slip (w:=W.at d) (d:=d') f hP (j6 W.heap.size) hi hx m (fun k=>k) (firm0 h0 hr _) (by rw [bD];exact hst);rw [bD] at e1;exact Fin.next e1 (u _ (by omega) p c (t++ops) q' d' ((e3 0 (.inl rfl)).trans h0) e4 e5 (lR _))
end
inductive Good:Wq->Prop
 |bool (b:Bool):Good (.bool b)
 |int (k:IntKind) (n:Int):Good (.int k n)
 |string (s:ByteArray):Good (.string s)
 |pointer (a:Option Ww):Good (.pointer a)
 |slice (a:Option Ww) (n c:Nat):Good (.slice a n c)
 |map (r:Option Nat):Good (.map r)
 |chan (r:Option Nat):Good (.chan r)
 |nilFunc:Good .nilFunc
 |nilIface:Good .nilIface
 |agg {c:Array Wq} (h:∀ (i:Nat) v,c[i]?=some v->Good v):Good (.agg c)
 |tuple {c:Array Wq} (h:∀ (i:Nat) v,c[i]?=some v->Good v):Good (.tuple c)
section
variable {ρ σ:Ren}
theorem nV {Q:Wq->Wq->Wq->Prop}{c c':Array Wq}(hc:c.size=c'.size)(h:∀ (i:Nat) v v',c[i]?=some v->c'[i]?=some v'->∃v0,Q v v' v0):
  ∃c0:Array Wq,c0.size=c'.size/\∀ (i:Nat) v v',c[i]?=some v->c'[i]?=some v'->∃v0,c0[i]?=some v0/\Q v v' v0:=by
 have hx:∀i:_root_.Fin c'.size,∃v0,Q (c[i.1]'(by omega)) c'[i.1] v0:=fun i=>h i.1 _ _ (eG _) (eG _)
 refine ⟨Array.ofFn fun i=>(hx i).choose,by simp,fun i v v' h1 h2=>?_⟩;obtain ⟨hi,e1⟩:=eS h1;obtain ⟨a,e2⟩:=eS h2;refine ⟨(hx ⟨i,a⟩).choose,?_,?_⟩
 .rw [Array.getElem?_ofFn];simp [a]
 .have:=(hx ⟨i,a⟩).choose_spec;rw [<-e1,<-e2];exact this
theorem wQ {c c' c0:Array Wq}(hc:c.size=c'.size)(h0:c0.size=c'.size)(h:∀ (i:Nat) v v',c[i]?=some v->c'[i]?=some v'->∃v0,c0[i]?=some v0/\RV σ v0 v'/\(Good v->v0=v))(hg:∀ (i:Nat) v,c[i]?=some v->Good v):c0=c:=by
 refine Array.ext (by omega) (fun i h1 h2=>?_);have h3:i<c'.size:=by omega
 obtain ⟨v0,e,-,k⟩:=h i _ _ (eG h2) (eG h3);have:=k (hg i _ (eG h2));rw [eG h1] at e;cases e;exact this
theorem vi {c c' c0:Array Wq}(hc:c.size=c'.size)(h0:c0.size=c'.size)(h:∀ (i:Nat) v v',c[i]?=some v->c'[i]?=some v'->∃v0,c0[i]?=some v0/\RV σ v0 v'/\(Good v->v0=v)):∀ (i:Nat) v v',c0[i]?=some v->c'[i]?=some v'->RV σ v v':=fun i v v' h1 h2=>by
 have hi:i<c'.size:=(eS h2).1;obtain ⟨v0,e,k,-⟩:=h i _ v' (eG (by omega)) h2;rw [h1] at e;cases e;exact k
theorem E5 (hrel:∀a b,ρ a b->σ a b)(ho:σ.bad=ρ.bad){v v':Wq}(h:RV ρ v v'):∃v0,RV σ v0 v'/\(Good v->v0=v):=by
 have d:∀ {a a':Option Ww},RAo ρ a a'->RAo σ a a':=fun h=>by
  cases h with
  |none=>exact .none
  |some h=>exact .some ⟨hrel _ _ h.1,h.2⟩
 have e:∀ {a a':Option Nat},RNo ρ a a'->RNo σ a a':=fun h=>by
  cases h with
  |none=>exact .none
  |some h=>exact .some (hrel _ _ h)
 induction h with
 |bool b=>exact ⟨_,.bool b,fun _=>rfl⟩
 |int k n=>exact ⟨_,.int k n,fun _=>rfl⟩
 |string s=>exact ⟨_,.string s,fun _=>rfl⟩
 |pointer h=>exact ⟨_,.pointer (d h),fun _=>rfl⟩
 |slice n c h=>exact ⟨_,.slice n c (d h),fun _=>rfl⟩
 |map h=>exact ⟨_,.map (e h),fun _=>rfl⟩
 |chan h=>exact ⟨_,.chan (e h),fun _=>rfl⟩
 |func hf ha hc _ _ _ _=>exact ⟨_,.dead _ (by cases hf<;>rfl),fun k=>by cases k⟩
 |nilFunc=>exact ⟨_,.nilFunc,fun _=>rfl⟩
 |iface t h _=>exact ⟨_,.dead _ rfl,fun k=>by cases k⟩
 |nilIface=>exact ⟨_,.nilIface,fun _=>rfl⟩
 |agg hc _ ih=>
  obtain ⟨c0,h0,h1⟩:=nV hc ih;exact ⟨.agg c0,.agg h0 (vi hc h0 h1),fun k=>by cases k with|agg k=>rw [wQ hc h0 h1 k]⟩
 |tuple hc _ ih=>
  obtain ⟨c0,h0,h1⟩:=nV hc ih;exact ⟨.tuple c0,.tuple h0 (vi hc h0 h1),fun k=>by cases k with|tuple k=>rw [wQ hc h0 h1 k]⟩
 |dead v' h=>exact ⟨_,.dead v' h,fun _=>rfl⟩
 |odd n s a c hn=>exact ⟨_,.odd n s a c (hn.trans ho.symm),fun k=>by cases k⟩
theorem wR (hrel:∀a b,ρ a b->σ a b)(ho:σ.bad=ρ.bad){c c':Array Wq}(h:RVs ρ c c'):∃c0,RVs σ c0 c'/\c0.size=c.size/\∀ (i:Nat) v,c[i]?=some v->Good v->c0[i]?=some v:=by
 obtain ⟨c0,h0,h1⟩:=nV h.size (fun i v v' h1 h2=>E5 (σ:=σ) hrel ho (h.at_ i v v' h1 h2));refine ⟨c0,⟨h0,vi h.size h0 h1⟩,by rw [h0,h.size],fun i v hv hg=>?_⟩;have hi:i<c.size:=(eS hv).1;obtain ⟨v0,e,-,k⟩:=h1 i v _ hv (eG (by rw [<-h.size];exact hi));rw [e,k hg]
theorem E6 (hrel:∀a b,ρ a b->σ a b)(ho:σ.bad=ρ.bad)(hF:σ.F mh=false){o o':Obj}(h:RO ρ o o'):∃o0,RO σ o0 o'/\Fixed o0/\o0.isChan=false/\∀c e z,o=.cells c e z->∃c0 z0,o0=.cells c0 e z0/\∀ (i:Nat) v,c[i]?=some v->Good v->c0[i]?=some v:=by
 cases h with
 | @cells c c' e z d hz h=>
  obtain ⟨c0,k1,k2,f⟩:=wR hrel ho h;refine ⟨.cells c0 e (0,max (max c.size d.2) 1),.cells e (.inr ⟨hF,rfl,by simp;omega,by simp only;omega,by simp only;omega⟩) k1,⟨rfl,by simp only;omega⟩,rfl,fun c1 e1 z1 hc=>?_⟩;cases hc;exact ⟨c0,_,rfl,f⟩
 |number b h=>exact ⟨_,.number b ⟨hrel _ _ h.1,h.2⟩,trivial,rfl,fun _ _ _ h=>by cases h⟩
 |dead o' h=>exact ⟨_,.dead o' h,trivial,rfl,fun _ _ _ h=>by cases h⟩
 |_=>exact ⟨_,.dead _ rfl,trivial,rfl,fun _ _ _ h=>by cases h⟩
end
def wS (o:Obj):Prop:=(∃c e z,o=.cells c e z)\/Fixed o
def Ren.low (ρ:Ren)(F:FuncId->Bool)(live:Nat->Prop)(c:Nat)(wide:Bool)(ht:F gu=true->wide=false):Ren where
 rel:=ρ.rel
 fn:=ρ.fn
 inj:=ρ.inj
 prog:=ρ.prog
 F:=F
 old:=fun a=>(∃b,ρ a b)/\¬live a/\a≠c
 ch:=fun a=>a=c
 loose:=true
 wide:=wide
 tight:=ht
 pin:=ρ.pin
 bad:=ρ.bad
 noM:=ρ.noM
theorem lower {ρ:Ren}{V W:Wz}(S:bB ρ V W){F:FuncId->Bool}{live:Nat->Prop}{c c':Nat}{wide:Bool}(ht:F gu=true->wide=false)(hF:F mh=false)(hc:ρ c c'){n E s s' q q':Nat}{b b':Array Wq}{cl B tm:Bool}(C:W.heap[c']?=some (.chan E b' B s' q' tm))(hcl:wide=true\/cl=B)
  (j:∀a,live a->a≠c/\∃x e z,V.heap[a]?=some (.cells x e z)/\(∀ (i:Nat) v,x[i]?=some v->Good v)/\∀y,ρ a y->∃x',W.heap[y]?=some (.cells x' e z)):
  ∃V':Wz,bB (ρ.low F live c wide ht) V' W/\V'.heap.size=V.heap.size/\V'.tape=V.tape/\V'.drawn=V.drawn/\V'.os=V.os/\V'.heap[c]?=some (.chan n b cl s q tm)/\(∀ (a:Nat) o,V'.heap[a]?=some o->o.isChan=true->a=c) /\
   (∀a y i v,ρ a y->V.cell? ⟨a,i,none⟩=some v->Good v->V'.cell? ⟨a,i,none⟩=some v)/\(∀a,live a->V'.heap[a]?=V.heap[a]?)/\∀a y,ρ a y->a≠c->∃o,V'.heap[a]?=some o/\wS o:=by
 classical
 generalize hσ:ρ.low F live c wide ht=σ;have hrel:∀a b,ρ a b->σ a b:=fun a b h=>by subst hσ;exact h
 have p:∀a b,σ a b->ρ a b:=fun a b h=>by subst hσ;exact h
 have hF':σ.F mh=false:=by subst hσ;exact hF
 have ho:σ.bad=ρ.bad:=by subst hσ;rfl
 have hlt:=(S.lt hc).1;have key:∀a:Nat,∃o0:Obj,(∀y,ρ a y->a≠c->∃o',W.heap[y]?=some o'/\RO σ o0 o')/\(a≠c->¬live a->Fixed o0)/\(a≠c->o0.isChan=false)/\(∀y x e z,ρ a y->a≠c->V.heap[a]?=some (.cells x e z)->∃x0 z0,o0=.cells x0 e z0/\∀ (i:Nat) v,x[i]?=some v->Good v->x0[i]?=some v)/\(live a->V.heap[a]?=some o0)/\(a=c->o0=.chan n b cl s q tm):=fun a=>by
  by_cases d:a=c
  .exact ⟨.chan n b cl s q tm,fun _ _ k=>absurd d k,fun k=>absurd d k,fun k=>absurd d k,fun _ _ _ _ _ k=>absurd d k,fun k=>absurd d (j a k).1,fun _=>rfl⟩
  by_cases hl:live a
  .obtain ⟨-,x,e,z,h1,h2,h3⟩:=j a hl;refine ⟨.cells x e z,fun y hy _=>?_,fun _ k=>absurd hl k,fun _=>rfl,fun y x1 e1 z1 hy _ hx=>?_,fun _=>h1,fun k=>absurd k d⟩
   .obtain ⟨o,o',k1,k2,u⟩:=S.obj a y hy;obtain ⟨x',k4⟩:=h3 y hy;rw [h1] at k1;cases k1;rw [k4] at k2;cases k2;cases u with
    |cells e hz h=>
     obtain ⟨c0,m1,m2,m3⟩:=wR (σ:=σ) hrel ho h;have:c0=x:=by
      refine Array.ext m2 (fun i i1 i2=>?_);have:=m3 i _ (eG i2) (h2 i _ (eG i2));rw [eG i1] at this;exact oJ this
     subst this;exact ⟨_,k4,.cells e (.inl rfl) m1⟩
   .rw [h1] at hx;cases hx;exact ⟨_,_,rfl,fun i v h _=>h⟩
  by_cases hy:∃y,ρ a y
  .obtain ⟨y,hy⟩:=hy;obtain ⟨o,o',k1,k2,u⟩:=S.obj a y hy;obtain ⟨o0,m1,m2,m3,D⟩:=E6 (σ:=σ) hrel ho hF' u;refine ⟨o0,fun y2 t _=>?_,fun _ _=>m2,fun _=>m3,fun y2 x e z t _ hx=>?_,fun k=>absurd k hl,fun k=>absurd k d⟩
   .obtain rfl:=ρ.fn _ _ _ hy t;exact ⟨o',k2,m1⟩
   .rw [hx] at k1;cases k1;exact D x e z rfl
  .exact ⟨.coro none,fun y k=>absurd ⟨y,k⟩ hy,fun _ _=>trivial,fun _=>rfl,fun y _ _ _ k=>absurd ⟨y,k⟩ hy,fun k=>absurd k hl,fun k=>absurd k d⟩
 obtain ⟨f,key⟩:=Classical.skolem.1 key;generalize l:({V with heap:=Array.ofFn (n:=V.heap.size) fun a=>f a.1}:Wz)=V';have hsz:V'.heap.size=V.heap.size:=by subst l;simp
 have row:∀a,a<V.heap.size->V'.heap[a]?=some (f a):=fun a ha=>by
  subst l;simp [ha]
 have m:V'.heap[c]?=some (.chan n b cl s q tm):=by rw [row c hlt,(key c).2.2.2.2.2 rfl]
 have r:∀ (a:Nat) o,V'.heap[a]?=some o->o.isChan=true->a=c:=fun a o ho hch=>by
  refine Classical.byContradiction fun hne=>?_
  have ha:a<V.heap.size:=by rw [<-hsz];exact (eS ho).1
  rw [row a ha] at ho;cases ho;rw [(key a).2.2.1 hne] at hch;cases hch
 refine ⟨V',⟨fun a y hay=>?_,fun a A=>?_,fun a hch=>?_,?_,fun hb=>by rw [hF'] at hb;cases hb⟩,hsz,by subst l;rfl,by subst l;rfl,by subst l;rfl,m,r,fun a y i v hay hv hg=>?_,fun a hl=>?_,fun a y hay hne=>?_⟩
 .have hay:=p _ _ hay;have ha:=(S.lt hay).1;by_cases d:a=c
  .subst d;obtain rfl:=ρ.fn _ _ _ hay hc;subst hσ;exact ⟨_,_,m,C,.chan _ _ _ _ _ _ _ _ _ (.inl rfl) hcl⟩
  .obtain ⟨o',k1,k2⟩:=(key a).1 y hay d;exact ⟨_,o',row a ha,k1,k2⟩
 .subst hσ;obtain ⟨⟨y,hy⟩,h1,h2⟩:=A;exact ⟨_,row a (S.lt hy).1,(key a).2.1 h2 h1⟩
 .subst hσ;have hch:a=c:=hch;subst hch;exact ⟨_,m,rfl⟩
 .subst l;exact S.os
 .have ha:=(S.lt hay).1;unfold World.cell? at hv ⊢;rw [row a ha];cases hr:V.heap[a]? with
  |none=>rw [hr] at hv;cases hv
  |some o=>
   rw [hr] at hv;cases o with
   |cells x e z=>
    by_cases d:a=c
    .subst d;obtain ⟨o,o',k1,k2,u⟩:=S.obj a c' hc;rw [C] at k2;cases k2;rw [hr] at k1;cases k1;cases u
    .obtain ⟨x0,z0,k1,k2⟩:=(key a).2.2.2.1 y x e z hay d hr;rw [k1];simp only at hv ⊢;exact k2 i v hv hg
   |_=>cases hv
 .have ha:a<V.heap.size:=by
   obtain ⟨-,x,e,z,h1,-⟩:=j a hl;exact (eS h1).1
  exact (row a ha).trans ((key a).2.2.2.2.1 hl).symm
 .refine ⟨_,row a (S.lt hay).1,?_⟩;by_cases hl:live a
  .obtain ⟨-,x,e,z,h1,-⟩:=j a hl;have:=(key a).2.2.2.2.1 hl;rw [h1] at this;exact .inl ⟨x,e,z,(oJ this).symm⟩
  .exact .inr ((key a).2.1 hne hl)
section
variable {P:Wx} {N T:Wj->Wz->Prop} {g g':Wj} {w w':Wz}
theorem LC.status {c:CommCase}{s:CommShape}(h:LC P g c s w g' w'):g'.status=.running:=by
 cases h with
 |dead _ _ _ hg=>exact hg
 |_=>rfl
theorem LS.status (h:LS P g w g' w'):g'.status=.running:=by
 cases h with
 |go _ hr _=>exact hr
 |comm _ hc=>exact hc.status
theorem LS.next (hr:g.status=.running)(h:LS P g w g' w'){m:Machine}(hs:step P (solo g w)=.next m):m=solo g' w'\/∃b,b.status=.blocked/\m.gs=#[b]/\∃u,m=solo b u:=by
 cases h with
 |go h _ _=>
  rw [lh hr h] at hs;exact .inl (by cases hs;rfl)
 | @comm g1 c s w1 es _ _ h hc=>
  rw [sj hr h] at hs;by_cases hg1:g1.status=.running
  .rcases sk hg1 hs with ⟨b,q,hb,rfl⟩|rfl
   .obtain ⟨rfl,rfl⟩:=(LS.comm h hb).fn (LS.comm h hc);exact .inl rfl
   .exact .inr ⟨_,rfl,rfl,_,rfl⟩
  .have a:(communicate P {timers:=#[],alone:=none,slice:=none} #[away] 0 g1 #[c] true s w1).1=.next m:=hs
   obtain ⟨ch,sd,z⟩:=c;cases hc with
   |dead _ _ _ hg=>exact absurd hg hg1
   |send h1 h2 h3 h4=>
    simp only at h1 h2;subst h1;subst h2;simp [communicate,ways,h3,bZ,h4,choose,Sem.run,Question.forced,bind,Sem.bind,pure] at a;exact .inl a.symm
   |recv h1 h2 h3 h4=>
    simp only at h1 h2;subst h1;subst h2;simp [communicate,ways,h3,bZ,h4,choose,Sem.run,Question.forced,bind,Sem.bind,pure] at a;refine .inl ?_;rw [<-a];simp [solo,h4]
   |shut h1 h2 h3=>
    simp only at h1 h2;subst h1;subst h2;simp [communicate,ways,h3,bZ,choose,Sem.run,Question.forced,bind,Sem.bind,pure] at a;exact .inl a.symm
theorem AJ (f:∀g w,T g w->∀n g2 w2,runN P n (solo g w)=.next (solo g2 w2)->g2.callers.length<=1):∀ (n:Nat)(g:Wj)(w:Wz),Dem P N T g w->g.status=.running->∀g2 w2,runN P n (solo g w)=.next (solo g2 w2)->g2.status=.running->1<g2.callers.length->LSs P T g w g2 w2/\Dem P N T g2 w2:=by
 intro n;induction n with
 |zero=>
  intro g w hD _ g2 w2 h _ _;simp only [runN,Stepped.next.injEq] at h;have e1:#[g]=#[g2]:=congrArg Machine.gs h;have e2:w=w2:=congrArg Machine.world h;simp at e1;subst e1;subst e2;exact ⟨.refl _ _,hD⟩
 |succ n ih=>
  intro g w hD hr g2 w2 h hr2 hl;cases hD with
  |stop k=>
   have:=f g w k _ _ _ h;omega
  |step hN d c hn=>
   obtain ⟨g',w',hls⟩:=c w.tape w.drawn;have a:LS P g w g' w':=hls;simp only [runN] at h;cases hs:step P (solo g w) with
   |ended o u=>rw [hs] at h;cases h
   |next m=>
    rw [hs] at h;rcases a.next hr hs with rfl|⟨b,hb,-,u,rfl⟩
    .obtain ⟨k1,k2⟩:=ih g' w' (hn _ _ _ _ hls) hls.status g2 w2 h hr2 hl;exact ⟨.step d w.tape w.drawn hls k1,k2⟩
    .cases n with
     |zero=>
      simp only [runN,Stepped.next.injEq] at h;have e1:#[b]=#[g2]:=congrArg Machine.gs h;simp at e1;subst e1;rw [hb] at hr2;cases hr2
     |succ n=>
      obtain ⟨o,z,e⟩:=iH (P:=P) (w:=u) (g:=b) hb;simp only [runN,e] at h;cases h
theorem Dem.on (b:∀g w τ d,N g w->N g (w.on τ d))(a:∀g w τ d,T g (w.on τ d)↔T g w)(h:Dem P N T g w)(τ:Nat->Question->Nat)(d:Nat):Dem P N T g (w.on τ d):=by
 cases h with
 |stop k=>exact .stop ((a _ _ _ _).2 k)
 |step h1 h2 h3 h4=>exact .step (b _ _ _ _ h1) (fun k=>h2 ((a _ _ _ _).1 k)) h3 h4
theorem LSs.on {τ:Nat->Question->Nat}{d:Nat}(a:∀g w τ d,T g (w.on τ d)↔T g w){g2:Wj}{w2:Wz}(h:LSs P T g (w.on τ d) g2 w2):(g2=g/\w2=w.on τ d)\/LSs P T g w g2 w2:=by
 cases h with
 |refl=>exact .inl ⟨rfl,rfl⟩
 |step hnT τ' d' h hs=>exact .inr (.step (fun k=>hnT ((a _ _ _ _).2 k)) τ' d' h hs)
theorem pq {f:FuncId}{R:(Nat->Question->Nat)->Nat->Ending->Wz->Prop}(h:Ends P f R g w):∀n g2 w2,runN P n (solo g w)=.next (solo g2 w2)->g2.callers.length<=1:=by
 obtain ⟨τ,d,τ',d',e,fr,-,rfl,-,hlv,hne⟩:=h;intro n g2 w2 hrun;have i:∀ {a b:Wj} {u v:Wz},solo a u=solo b v->a=b:=fun h=>by
  have e1:=congrArg Machine.gs h;simpa [solo] using e1
 cases n with
 |zero=>
  simp only [runN,Stepped.next.injEq] at hrun;rw [<-i hrun];exact lR _
 |succ n=>
  have hst:(∃o u es,stepG P true {frame:=fr,callers:=[trap P],status:=.running,dying:=none} w=.ended o u es)\/∃f1 u es,stepG P true {frame:=fr,callers:=[trap P],status:=.running,dying:=none} w=.go {frame:=f1,callers:=[],status:=.running,dying:=none} u es/\(f1=trap P\/∃c,f1=(trap P).raise c):=by
   cases e with
   |outgrown=>exact absurd rfl hne
   |panicked c=>
    obtain ⟨hm,hd,fn,hf⟩:=hlv;have hc:fr.catches P=false:=by unfold Frame.catches;rw [hf]
    refine .inr ⟨(trap P).raise c,w,#[],?_,.inr ⟨c,rfl⟩⟩;simp only [stepG,hm,unwind,hd,hc];rfl
   |returned v=>
    obtain ⟨hm,hd,hk,fn,hf,-⟩:=hlv;have e0:stepG P true {frame:=fr,callers:=[trap P],status:=.running,dying:=none} w=unwind P true fr [trap P] none w:=by simp only [stepG,hm]
    rw [e0];unfold unwind;simp only [hd,hm,hf];cases hr:(results fn fr.tmps).runT P w #[] with
    |mk r es=>
     cases r with
     |ok v u=>
      obtain ⟨f1,e1,h1⟩:=jG (P:=P) fr (by rw [hk];rfl) v u;simp only [e1];exact .inr ⟨f1,_,_,rfl,h1⟩
     |halt x u=>cases x<;>exact .inl ⟨_,_,_,rfl⟩
  simp only [runN] at hrun;rcases hst with ⟨o,u,es,he⟩|⟨f1,u,es,he,hf1⟩
  .rw [fi (g:={frame:=fr,callers:=[trap P],status:=.running,dying:=none}) rfl he] at hrun;cases hrun
  .rw [lh (g:={frame:=fr,callers:=[trap P],status:=.running,dying:=none}) rfl he] at hrun;cases n with
   |zero=>
    simp only [runN,Stepped.next.injEq] at hrun;rw [<-i hrun];exact Nat.zero_le _
   |succ n=>
    obtain ⟨o,z,es2,e2⟩:=sp (P:=P) hf1 u;simp only [runN,fi (g:={frame:=f1,callers:=[],status:=.running,dying:=none}) rfl e2] at hrun;cases hrun
end
def Marks (ρ:Ren)(l:List Deferred):Prop:=∀d∈l,∃r b,d.target=.collected r/\ρ r b
theorem RDs.marks {ρ:Ren}(hS:(ρ.F gu||ρ.F mi)=false){l l':List Deferred}(h:RDs ρ l l'):Marks ρ l:=by
 induction h with
 |nil=>exact fun d hd=>by cases hd
 | @cons d d' l l' h _ hk ih=>
  intro x hx;rcases List.mem_cons.1 hx with rfl|hx
  .rcases hk with ⟨r,hr⟩|hk
   .cases h with
    |odd=>cases hr
    |mk this _=>
     rw [hr] at this;generalize d'.target=y at this;cases this with
     |collected k=>exact ⟨r,_,hr,k⟩
   .rw [hS] at hk;cases hk
  .exact ih x hx
inductive Fl (P:Wx)(ρ:Ren):List Wv->Prop
 |base:Fl P ρ [trap P]
 |cons {f:Wv} {l:List Wv} (hc:f.catches P=false) (hm:Marks ρ f.defers) (hl:Fl P ρ l):Fl P ρ (f::l)
theorem RFs.fl {P Q:Wx}{ρ:Ren}(hS:(ρ.F gu||ρ.F mi)=false){l l':List Wv}(h:RFs P ρ ([trap Q],[]) l l'):Fl Q ρ l:=by
 generalize hX:(([trap Q],[]):List Wv×List Wv)=X at h;induction h with
 |base=>rw [<-hX];exact .base
 |cons h _ _ ih=>exact .cons (fh h Q).1 (h.defers.marks hS) ih
def Ce (V w:Wz):Prop:=w.heap.size=V.heap.size/\∀a,w.cell? a=V.cell? a
theorem E7 {P:Wx}{f:FuncId}{R:(Nat->Question->Nat)->Nat->Ending->Wz->Prop}{ρ:Ren}{en:PanicEntry}{V:Wz}{g:Wj}{w:Wz}(hD:Dem P (fun g _=>NB [trap P] g) (Ends P f R) g w):
  ∀l,g.frame.mode=.panicking (en::l)->g.dying=none->g.frame.catches P=false->Marks ρ g.frame.defers->Fl P ρ g.callers->(∀r b,ρ r b->∀l,w.heap[r]?=some (.deferred (some l))->Marks ρ l)->Ce V w->∃τ d l u,R τ d (.panicked (en::l)) u/\Ce V u:=by
 induction hD with
 | @stop g w F=>
  intro l hm y _ _ _ _ n;obtain ⟨τ,d,τ',d',e,fr,J,rfl,-,hlv,hne⟩:=F;simp only at hm;cases e with
  |outgrown=>exact absurd rfl hne
  |returned v=>
   obtain ⟨h,-⟩:=hlv;rw [hm] at h;cases h
  |panicked c=>
   obtain ⟨h,-⟩:=hlv;rw [hm] at h;cases h;exact ⟨τ,d,l,_,J,n⟩
 | @step g w I F E hn ih=>
  intro l hm y t hmk z s n;obtain ⟨g',w',hls⟩:=E w.tape w.drawn;have m:LS P g w g' w':=hls;have i:stepG P true g w=unwind P true g.frame g.callers none w:=by
   obtain ⟨fr,cs,st,dy,off⟩:=g;simp only at hm y;subst y;simp only [stepG,hm]
  cases p:g.frame.defers with
  |cons x H=>
   obtain ⟨r,b,hx,C⟩:=hmk x (by rw [p];exact List.mem_cons_self ..);obtain ⟨tg,ar⟩:=x;simp only at hx;subst hx;have hrun:∀l0,w.heap[r]?=some (.deferred (some l0))->(Instr.takeDeferred r).runT P w #[]=(.ok l0 {w with heap:=w.heap.setIfInBounds r (.deferred none)},#[⟨.obj r,false,false⟩,⟨.obj r,true,false⟩]):=fun l0 h0=>by
    unfold Instr.takeDeferred;show Sem.runT P (Sem.getObj r _) w #[]=_;simp only [Sem.runT,h0];show Sem.runT P (Sem.setObj r (.deferred none) _) w _=_;simp only [Sem.runT,h0];rfl
   have B:(∀l0,w.heap[r]?≠some (.deferred (some l0)))->∃h u es,(Instr.takeDeferred r).runT P w #[]=(.halt h u,es):=fun hno=>by
    unfold Instr.takeDeferred;show ∃h u es,Sem.runT P (Sem.getObj r _) w #[]=(.halt h u,es);cases h0:w.heap[r]? with
    |none=>simp only [Sem.runT,h0];exact ⟨_,_,_,rfl⟩
    |some o=>
     cases o with
     |deferred q=>
      cases q with
      |none=>simp only [Sem.runT,h0];exact ⟨_,_,_,rfl⟩
      |some l0=>exact absurd h0 (hno l0)
     |_=>simp only [Sem.runT,h0];exact ⟨_,_,_,rfl⟩
   unfold unwind at i;simp only [p] at i;by_cases A:∃l0,w.heap[r]?=some (.deferred (some l0))
   .obtain ⟨l0,h0⟩:=A;rw [hrun l0 h0] at i;have j:∃es,stepG P true g w=.go {frame:={g.frame with defers:=l0++H},callers:=g.callers,status:=.running,dying:=none} {w with heap:=w.heap.setIfInBounds r (.deferred none)} es:=⟨_,i⟩;obtain ⟨es,j⟩:=j;cases m with
    |comm h _=>rw [j] at h;cases h
    |go h _ _=>
     rw [j] at h;cases h;refine ih _ _ _ _ hls l hm rfl t (fun d hd=>?_) z (fun r1 G D l1 h1=>?_) ⟨?_,fun a=>?_⟩
     .rcases List.mem_append.1 hd with k|k
      .exact s r b C l0 h0 d k
      .exact hmk d (by rw [p];exact List.mem_cons_of_mem _ k)
     .by_cases e:r=r1
      .subst e;simp only at h1;rw [sS (eS h0).1] at h1;cases h1
      .simp only [sN e] at h1;exact s r1 G D l1 h1
     .simp only [Array.size_setIfInBounds];exact n.1
     .rw [<-n.2 a];unfold World.cell?;by_cases e:r=a.block
      .simp only [<-e,sS (eS h0).1,h0]
      .simp only [sN e]
   .obtain ⟨h,u,es,hb⟩:=B (fun l0 k=>A ⟨l0,k⟩);rw [hb] at i;exfalso;have:∃o u es,stepG P true g w=.ended o u es:=⟨_,_,_,i⟩;obtain ⟨o,u,es,i⟩:=this;cases m with
    |comm h _=>rw [i] at h;cases h
    |go h _ _=>rw [i] at h;cases h
  |nil=>
   unfold unwind at i;simp only [p,hm,t] at i;generalize hcs:g.callers=cs at z i;cases z with
   |base=>
    exfalso;rcases I hcs with k|k
    .rw [hm] at k;cases k
    .exact k p
   | @cons c rest hc1 hm1 hl1=>
    have j:stepG P true g w=.go {frame:=c.raise (en::l),callers:=rest,status:=.running,dying:=none} w #[]:=i;cases m with
    |comm h _=>rw [j] at h;cases h
    |go h _ _=>
     rw [j] at h;cases h;have hr:∃l2,(c.raise (en::l)).mode=.panicking (en::l2):=by
      unfold Frame.raise;cases c.mode with
      |panicking ch=>exact ⟨l++ch,rfl⟩
      |_=>exact ⟨l,rfl⟩
     obtain ⟨l2,hr⟩:=hr;have hk:(c.raise (en::l)).defers=c.defers/\(c.raise (en::l)).catches P=c.catches P:=by
      unfold Frame.raise Frame.catches;cases c.mode<;>exact ⟨rfl,rfl⟩
     exact ih _ _ _ _ hls l2 hr rfl (by rw [hk.2];exact hc1) (by rw [hk.1];exact hm1) hl1 s n
section
open Go.Conc (crowd Past EvL Deaf QuitsD woken awake crowd_pick runT_crowd_go Goes AtRel goes_elim)
open Go.ConcN (sumTo upd sumTo_upd upd_ne upd_same)
variable {P:Wx} {Post:Wq->Wz->Prop}
def DB (B:Nat):Wz->Wz->Array Event->Prop:=fun _ _ es=>∀e∈es,EvL iu B e
def GE (P:Wx)(Post:Wq->Wz->Prop)(B:Nat)(g:Wj)(W:Wz):Prop:=
 ∀ (gs:Array Wj) (sl:Option (Nat×Nat)) (t:Trace) (q:Nat->Nat),gs[0]?=some g->Lv P (fun _=>False) t gs q->Past iu B t->Fin P Post gs W sl t
theorem wT {B:Nat}:∀ {n:Nat}{g:Wj}{W:Wz},Goes P true AtRel (DB B) (GE P Post B) n g W->GE P Post B g W:=by
 intro n;induction n with
 |zero=>intro g W h;exact h W ⟨W.drawn,rfl⟩
 |succ n ih=>
  intro g W h gs sl t q h0 f hP;rcases h with h|⟨hr,h⟩
  .exact h W ⟨W.drawn,rfl⟩ gs sl t q h0 f hP
  .obtain ⟨M,hM⟩:∃M,sumTo gs.size q<=M:=⟨_,lR _⟩;obtain ⟨d0,b⟩:∃d0,W=W.at d0:=⟨W.drawn,rfl⟩;rw [b];clear b;induction M using Nat.strongRecOn generalizing gs sl t q d0 with
   |_ M l=>
    obtain ⟨i,x,d',c,hi,hx,hst⟩:=crowd_pick (P:=P) (w:=W.at d0) (sl:=sl) (iI f h0 hr) ⟨0,g,h0,hr⟩;rw [bD] at hst;rcases Nat.eq_zero_or_pos i with rfl|e
    .obtain rfl:x=g:=by rw [h0] at hi;exact (oJ hi).symm
     obtain ⟨g',W',es,j,hev,hnx⟩:=goes_elim (h (W.at d') ⟨d',rfl⟩);obtain ⟨a,ops,e1,e2,e3,e4,-,e6⟩:=qD (w:=W.at d0) f hi (.inl rfl) (d:=d') (by rw [bD];exact hst) (show stepG P (0==0) x ((W.at d0).at d')=_ from j);subst e2;exact Fin.next e1 (ih hnx a c _ q e4 e6 (hP.own hev))
    .obtain ⟨a,q',ops,e1,e2,e3,e4,e5,e6,-⟩:=slip (w:=W.at d0) (d:=d') f hP (j6 B) hi hx e (fun k=>k) (firm0 h0 hr _) (by rw [bD];exact hst);rw [bD] at e1;exact Fin.next e1 (l _ (by omega) a c (t++ops) q' ((e3 0 (.inl rfl)).trans h0) e4 e5 (lR _) d')
end
