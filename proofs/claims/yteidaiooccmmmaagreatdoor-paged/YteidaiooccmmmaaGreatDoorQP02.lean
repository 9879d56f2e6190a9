/- A part. -/
import Derived.Test.YteidaiooccmmmaaGreatDoorQP01
import Derived.Conc.Beside
import Derived.Conc.CrowdComm
import Derived.Conc.CrowdTrace
import Derived.Conc.BesideWords
import Derived.Conc.LoneCalls
set_option maxHeartbeats 4000000
set_option maxRecDepth 100000
open Go renaming World->Wj,Value->Wx,Goroutine->Wk,Program->Wv,Frame->Wy,Addr->Wu,undef->Wo
namespace Go.Proofs.Qw
open Option renaming none->N,some->J
open Bool renaming true->Y,false->Z
open Value renaming int->I,string->U,slice->M,pointer->O,bool->C
open IntKind renaming i64->K
open Obj renaming cells->E
variable {w2:Wj}{k':List Wy}{m n' n0 q' s':Nat}{Q:List Wx}{b' c':Array Wx}{H cl:Bool}
open Tryz
section
open Go.Conc (crowd Past EvL Deaf QuitsD woken awake crowd_pick runT_crowd_go rcase scase parked ph)
open Go.ConcN (sumTo upd sumTo_upd upd_ne upd_same)
def Fin(P:Wv)(Post:Wx->Wj->Prop)(gs:Array Wk)(w:Wj)(sl:Option (Nat×Nat))(t:Trace):Prop:=
 ∃N a o w' b,runNT P (N+1) (crowd gs w sl) t=(.ended o w',b)/\runN P N (crowd gs w sl)=.next a/\step P a=.ended o w'/\Conc.Good P Post a o w' b
theorem Fin.next{P:Wv}{Post:Wx->Wj->Prop}{gs c:Array Wk}{w w':Wj}{sl d:Option (Nat×Nat)}{t:Trace}{a:Array MemOp}(hs:stepT P (crowd gs w sl)=(.next (crowd c w' d),a))(h:Fin P Post c w' d (t++a)):Fin P Post gs w sl t:=by
 obtain⟨N,b,o,k,e,h1,f,j,i⟩:=h;exact⟨N+1,b,o,k,e,by rw[runNT];simp only[hs];exact h1,by rw[runN];simp only[step,hs];exact f,j,i⟩
theorem Fin.last{P:Wv}{Post:Wx->Wj->Prop}{gs:Array Wk}{w w':Wj}{sl:Option (Nat×Nat)}{t:Trace}{a:Array MemOp}{o:Outcome}(hs:stepT P (crowd gs w sl)=(.ended o w',a))(h:Conc.Good P Post (crowd gs w sl) o w' (t++a)):Fin P Post gs w sl t:=
 ⟨0,crowd gs w sl,o,w',t++a,by simp[runNT,hs],rfl,by simp[step,hs],h⟩
structure Lv (P:Wv)(K:Nat->Prop)(t:Trace)(gs:Array Wk)(q:Nat->Nat):Prop where
 old:∀i g,0<i->¬K i->gs[i]?=J g->QuitsD P (q i) (Deaf t i) g
 above:∀j,gs.size<=j->Deaf t j=0
theorem jL{P:Wv}{n d:Nat}{g:Wk}(h:QuitsD P n d g)(w:Wj):g.again w=g:=Conc.again_running _ h.status
section
variable {P:Wv} {K:Nat->Prop} {Shun:Loc->Prop} {gs:Array Wk} {w:Wj} {sl:Option (Nat×Nat)} {t:Trace} {q:Nat->Nat}
theorem fN{P:Wv}{g g' o:Wk}{w:Wj}(h:o.again w=o):woken P g g' w o=o:=by
 unfold Conc.woken;split
 .exact h
 .rfl
theorem slip(S:Lv P K t gs q){Pa:Trace->Prop}(hP:Pa t)(p:∀ (t:Trace)(i:Nat)(fn:FuncId)(X:String)(es:Array Event),i≠0->¬K i->Pa t->(∀e∈es,e.mute=Y)->Pa (t++MemOp.ofEvents i fn X es)){i:Nat}{g:Wk}{d:Nat}{s:Option (Nat×Nat)}(T:gs[i]?=J g)(D:g.status=.running)(z:0<i)(R:¬K i)
  (m:∀j o,(j=0\/K j)->gs[j]?=J o->o.again (w.at d)=o) (Q:stepT P (crowd gs w sl)=runT P (crowd gs (w.at d) s) i):
  ∃b q' f,stepT P (crowd gs w sl)=(.next (crowd b (w.at d) s),f)/\b.size=gs.size/\(∀j,(j=0\/K j)->b[j]?=gs[j]?)/\Lv P K (t++f) b q'/\Pa (t++f)/\sumTo b.size q'<sumTo gs.size q/\(∀H∈f,H.g=i):=by
 have F:=S.old i g z R T;have aa:(i==0)=false:=by simp;omega
 have v:i<gs.size:=(eS T).1;cases n:q i with
 |zero=>rw[n]at F;rw[F.1]at D;cases D
 |succ k=>
  rw[n]at F;rcases F with⟨hf,_⟩|⟨_,g',es,hm,u,V⟩
  .rw [hf]at D;cases D
  have l:=runT_crowd_go (P:=P) (sl:=s) (i:=i) T (by rw[aa];exact u (w.at d));have A:((gs.map (woken P g g' (w.at d))).setIfInBounds i g').size=gs.size:=by simp
  have hsum:sumTo gs.size (upd q i k)+(k+1)=sumTo gs.size q+k:=by
   have:=sumTo_upd q k id v;simpa[n]using this
  refine⟨_,upd q i k,_,Q.trans l,A,λj r=>?_,⟨λj x r ab G=>?_,λj r=>?_⟩,p t i _ _ es (by omega) R hP hm,by rw[A];omega,λH a=>by obtain⟨e,_,rfl⟩:=Conc.mem_ofEvents a;rfl⟩
  .have L:i≠j:=λe=>by subst e;rcases r with h|h<;>first|omega|exact R h
   rw[sN L,Array.getElem?_map];cases ho:gs[j]? with
   |none=>rfl
   |some o=>simp only[Option.map_some];rw[fN (m j o r ho)]
  .by_cases c:i=j
   .subst c;rw[sS (by simpa using v)]at G;obtain rfl:=oJ G;rw[upd_same,Conc.Deaf_own];exact V
   .rw [sN c,Array.getElem?_map]at G;obtain⟨y,hy,rfl⟩:=Option.map_eq_some_iff.1 G;have B:=S.old j y r ab hy;rw[fN (jL B _),upd_ne q k (Ne.symm c),Conc.Deaf_other t c _ (λH a=>by obtain⟨e,_,rfl⟩:=Conc.mem_ofEvents a;rfl)];exact B
  .rw [Conc.Deaf_other t (g':=i) (by simp at r;omega) _ (λH a=>by obtain⟨e,_,rfl⟩:=Conc.mem_ofEvents a;rfl)];exact S.above j (by simpa using r)
theorem qI(D:Lv P K t gs q){i:Nat}{ad v:Wk}{w':Wj}{es:Array Event}{d:Nat}{l:Option (Nat×Nat)}(z:gs[i]?=J ad)(L:i=0\/K i)(u:stepT P (crowd gs w sl)=runT P (crowd gs (w.at d) l) i)(s:stepG P (i==0) ad (w.at d)=.go v w' es):
  ∃b c,stepT P (crowd gs w sl)=(.next (crowd b w' l),c)/\c=MemOp.ofEvents i ad.frame.fn ad.frame.place es/\b.size=gs.size/\b[i]?=J v/\(∀j o,j≠i->gs[j]?=J o->b[j]?=J (woken P ad v w' o))/\Lv P K (t++c) b q:=by
 have k:=runT_crowd_go (P:=P) (sl:=l) (i:=i) z s;have r:i<gs.size:=(eS z).1;refine⟨_,_,u.trans k,rfl,by simp,by simp[r],λj o m F=>?_,⟨λj x m p A=>?_,λj m=>?_⟩⟩
 .rw [sN (Ne.symm m),Array.getElem?_map,F];rfl
 .have n:i≠j:=λe=>by subst e;rcases L with h|h<;>first|omega|exact p h
  rw[sN n,Array.getElem?_map]at A;obtain⟨y,G,rfl⟩:=Option.map_eq_some_iff.1 A;have B:=D.old j y m p G;rw[fN (jL B _),Conc.Deaf_other t n _ (λH f=>by obtain⟨e,_,rfl⟩:=Conc.mem_ofEvents f;rfl)];exact B
 .rw [Conc.Deaf_other t (g':=i) (by simp at m;omega) _ (λH f=>by obtain⟨e,_,rfl⟩:=Conc.mem_ofEvents f;rfl)];exact D.above j (by simpa using m)
def du(B:Nat):MemAct->Prop
 | .send c _| .sendDone c _| .recv c _ _| .recvDone c _| .close c| .recvClosed c=>c<B
 |_=>False
theorem du.low{B:Nat}{a:MemAct}(h:du B a):a.low B:=by cases a<;>first|exact h|exact h.elim
theorem du.none{B:Nat}{a:MemAct}(h:du B a):a.touch?=none:=by cases a<;>first|rfl|exact h.elim
theorem du.still{B:Nat}{a:MemAct}(h:du B a):a≠.mark .disable/\a≠.mark .enable:=by cases a<;>first|exact h.elim|exact⟨by simp,by simp⟩
theorem bK(t:Trace)(g:Nat)(u:Trace)(c:∀b∈u,b.act≠.mark .disable/\b.act≠.mark .enable):Deaf (t++u) g=Deaf t g:=by
 obtain⟨l⟩:=u;rw[Conc.Deaf_append];induction l generalizing t with
 |nil=>rfl
 |cons x l ih=>
  have d:=c x (by simp);have e:Conc.deafStep g (Deaf t g) x=Deaf t g:=by
   obtain⟨xg,xf,xp,f⟩:=x;cases f with
   |mark m=>cases m<;>first|rfl|exact absurd rfl d.1|exact absurd rfl d.2
   |_=>rfl
  rw[List.foldl_cons,e];exact ih t (λb a=>c b (by simp at a ⊢;exact .inr a))
theorem Lv.put(d:Lv P K t gs q){a:Array Wk}{u:Trace}(c:∀op∈u,op.act≠.mark .disable/\op.act≠.mark .enable)(hsz:a.size=gs.size)(hs:∀j,0<j->¬K j->a[j]?=gs[j]?):Lv P K (t++u) a q:=
 ⟨λi g e b f=>by rw[bK t i u c];exact d.old i g e b (by rw[<-hs i e b];exact f),λj hj=>by rw[bK t j u c];exact d.above j (by omega)⟩
theorem A2{B:Nat}(h:Past Shun B t){u:Trace}(d:∀c∈u,c.g=0/\du B c.act):Past Shun B (t++u):=
 h.app0 (λc a=>(d c a).1) (λc a b e=>by rw[(d c a).2.none]at e;cases e) (bK t 0 u (λc a=>(d c a).2.still)) (λc a=>(d c a).2.low)
theorem Lv.alone(c:Lv P (λ_=>False) t gs q)(r:Nat)(b:Bool):partners (gs.setIfInBounds 0 ph) r b=[]:=by
 refine Conc.partners_nil (λj x a=>?_);rcases Conc.getElem?_stand gs 0 j x a with⟨-,rfl⟩|⟨hne,a⟩
 .exact Conc.offersAt_ph r b
 .refine Conc.offersAt_of_not_blocked (λe=>?_) r b;rcases(c.old j x (by omega) (λk=>k) a).status with h|h<;>rw[h]at e<;>cases e
end
def iy:Loc->Prop:=λ_=>False
theorem ko{ρ:Ren}{V W:Wj}(S:bN ρ V W){e:Event}(h:jg ρ e):EvL iy W.heap.size e:=by
 obtain⟨b,wr,c⟩:=e;cases b with
 |cell a=>
  obtain⟨x,h1,-⟩:=h;exact⟨λ_ _ k=>k.elim,by simp,by simp,(S.lt h1).2⟩
 |obj r=>
  obtain⟨x,h1,-⟩:=h;refine⟨λ_ _ k=>k.elim,by simp,by simp,?_⟩;have:=(S.lt h1).2;cases wr<;>cases c<;>exact this
 |mark m=>
  have h:RMk m:=h;cases h with
  |extern f=>exact⟨λ_ _ k=>k.elim,by simp,by simp,trivial⟩
  |noRoom=>exact⟨λ_ _ k=>k.elim,by simp,by simp,trivial⟩
 |output=>exact⟨λ_ _ k=>k.elim,by simp,by simp,trivial⟩
 |goroutines=>exact h.elim
inductive LSs (P:Wv)(T:Wk->Wj->Prop):Wk->Wj->Wk->Wj->Prop
 |refl (g:Wk) (w:Wj):LSs P T g w g w
 |step {g g1 g2:Wk} {w w1 w2:Wj} (hT:¬T g w) (τ:Nat->Question->Nat) (d:Nat) (h:LS P g (w.on τ d) g1 w1) (hs:LSs P T g1 w1 g2 w2):LSs P T g w g2 w2
theorem LSs.trans{P:Wv}{T:Wk->Wj->Prop}{o ad c:Wk}{u v w:Wj}(h:LSs P T o u ad v)(k:LSs P T ad v c w):LSs P T o u c w:=by
 induction h with
 |refl=>exact k
 |step f e d h _ ih=>exact .step f e d h (ih k)
def Quiet(ρ:Ren)(V:Wj):Prop:=ρ.F mz=Z/\∀a b o,ρ a b->V.heap[a]?=J o->o.isChan=Y->∃n s q c,o=.chan n #[] Y s q c
theorem Quiet.reach{ρ ρ':Ren}{w w' u f:Wj}(h:Quiet ρ w)(j:ρ.F gq=Z)(R:Reach ρ ρ' w w' u f):Quiet ρ' u:=⟨by rw[R.le.F];exact h.1,λa b o c i e=>by
 rcases R.chs.only h.1 a o i e with k|⟨k,-⟩
 .rcases R.new a b c with d|⟨d,-⟩
  .exact h.2 a b o d k e
  .have:=(eS k).1;omega
 .rw [j]at k;cases k⟩
structure Outer where
 Ko:Nat->Prop
 W0:Wj
 lt:∀b,Ko b->b<W0.heap.size
 R:Nat->Nat->Prop
 pin:Nat->Option (Array Wx)
 bad:TypeId
def Kp(U:Outer)(W:Wj):Prop:=U.W0.heap.size<=W.heap.size/\W.output=U.W0.output/\∀b,U.Ko b->W.heap[b]?=U.W0.heap[b]?
def Off(U:Outer)(ρ:Ren):Prop:=(∀a b,ρ a b->¬U.Ko b)/\(∀a b,U.R a b->ρ a b)/\ρ.pin=U.pin/\ρ.bad=U.bad
theorem Kp.keep{c:Outer}{W W1:Wj}{ρ:Ren}(h:Kp c W)(e:Off c ρ)(K:Keep ρ W W1):Kp c W1:=
 ⟨lT h.1 K.size,K.output.trans h.2.1,λb d=>(K.block b (lL (c.lt b d) h.1) (λa f=>absurd d (e.1 a b f))).trans (h.2.2 b d)⟩
theorem Off.new{c:Outer}{W:Wj}{ρ ρ':Ren}(d:Off c ρ)(h:Kp c W)(e:∀a b,ρ a b->ρ' a b)(l:∀a b,ρ' a b->ρ a b\/W.heap.size<=b)(i:ρ'.pin=ρ.pin/\ρ'.bad=ρ.bad):Off c ρ':=⟨λa b f j=>by
 rcases l a b f with k|k
 .exact d.1 a b k j
 .have:=c.lt b j;have:=h.1;omega,λa b k=>e a b (d.2.1 a b k),i.1.trans d.2.2.1,i.2.trans d.2.2.2⟩
theorem Kp.reach{c:Outer}{ρ ρ':Ren}{w w' u:Wj}(h:Kp c w'/\Off c ρ)(R:Reach ρ ρ' w w' u w2):Kp c w2/\Off c ρ':=⟨h.1.keep h.2 R.keep,h.2.new h.1 R.le.sub (λa b k=>(R.new a b k).imp id (·.2)) ⟨R.le.pin,R.le.bad⟩⟩
structure Rel (P:Wv) [Two P](U:Outer)(G:FuncId->Bool)(Y:List Wy)(ρ:Ren)(h g:Wk)(V W:Wj):Prop where
 go:RGo P ρ ([trap P.alt],Y) h g
 sim:bN ρ V W
 gid:GId P ρ
 ext:fY P ρ.F
 calm:ρ.F gq=Z
 same:ρ.F=G
 firm:ρ.loose=Z/\ρ.wide=Z
 quiet:Quiet ρ V
 out:Kp U W/\Off U ρ
section
variable {P:Wv} [Two P]
def pB(P:Wv) [Two P](U:Outer)(G:FuncId->Bool)(Y:List Wy)(Post:Wx->Wj->Prop)(h:Wk)(V:Wj):Prop:=
 ∀ (gs:Array Wk) (g:Wk) (W:Wj) (sl:Option (Nat×Nat)) (t:Trace) (q:Nat->Nat) (ρ:Ren),gs[0]?=J g->Lv P (λ_=>False) t gs q->Past iy W.heap.size t->Rel P U G Y ρ h g V W->Fin P Post gs W sl t
def vt(P:Wv) [Two P](U:Outer)(G:FuncId->Bool)(Y:List Wy)(T:Wk->Wj->Prop)(Post:Wx->Wj->Prop):Prop:=
 ∀ (f:FuncId) (a h:Array Wx) (d b:Wy) (cs c:List Wy) (V W:Wj) (ρ:Ren),Mk ρ.F f=true->RVs ρ a h/\a.size=2->Rel P U G Y ρ {frame:=d,callers:=cs,status:=.running,dying:=N} {frame:=b,callers:=c,status:=.running,dying:=N} V W ->
  Dem P.alt (λg _=>NB [trap P.alt] g) T {frame:=Frame.enter P.alt f a .normal,callers:=d::cs,status:=.running,dying:=N} V ->
  (∀e V2,LSs P.alt T {frame:=Frame.enter P.alt f a .normal,callers:=d::cs,status:=.running,dying:=N} V e V2->pB P U G Y Post e V2) ->
  ∀ (gs:Array Wk) (sl:Option (Nat×Nat)) (t:Trace) (q:Nat->Nat),gs[0]?=J {frame:=Frame.enter P f h .normal,callers:=b::c,status:=.running,dying:=N}->Lv P (λ_=>False) t gs q->Past iy W.heap.size t->Fin P Post gs W sl t
omit [Two P]in
theorem RFs.nil_of{ρ:Ren}{x:Wy}(h:RFs P ρ ([x],[]) [x] k'):k'=[]:=by
 generalize c:(([x],[]):List Wy×List Wy)=X at h;generalize b:[x]=l at h;cases h with
 |base=>rw[<-c]
 |cons _ _ a=>
  cases b;subst c;generalize c:(([x],[]):List Wy×List Wy)=X at a;generalize b:([]:List Wy)=l at a;cases a with
  |base=>rw[<-c]at b;cases b
  |cons _ _ _=>cases b
theorem ku(B:Nat):∀ (t:Trace)(i:Nat)(fn:FuncId)(a:String)(es:Array Event),i≠0->¬(λ_:Nat=>False) i->Past iy B t->(∀e∈es,e.mute=Y)->Past iy B (t++MemOp.ofEvents i fn a es):=
 λ_ _ _ _ _ c _ h b=>h.mute c b
def Leaf(P:Wv) [Two P](U:Outer)(G:FuncId->Bool)(T:Wk->Wj->Prop)(Post:Wx->Wj->Prop):Prop:=
 ∀ (h g:Wk) (V W:Wj) (ρ:Ren),T h V->Rel P U G [] ρ h g V W->∀d,∃v es ρ' V' W',stepG P Y g (W.at d)=.ended (.done v) W' es/\Post v W'/\bN ρ' V' W'/\W.heap.size<=W'.heap.size/\∀e∈es,jg ρ' e
theorem qJ{ρ:Ren}{V W:Wj}(S:bN ρ V W){c m:CommCase}(n:RC ρ c m){r p l k:Nat}{buf:Array Wx}{u v:Bool}(G:c.chan=.chan (J r))(t:V.heap[r]?=J (.chan p buf u l k v)):
  ∃i a d b e f,m.chan=.chan (J i)/\ρ r i/\W.heap[i]?=J (.chan a d b e f v)/\(ρ.loose=Y\/RVs ρ buf d)/\(ρ.wide=Y\/u=b)/\¬ρ.old r:=by
 have h:=n.chan;rw[G]at h;generalize m.chan=x at h;cases h with
 |chan h=>
  cases h with
  | @some _ i h=>
   obtain⟨o,o',s,D,F⟩:=S.obj _ _ h;rw[t]at s;cases s;cases F with
   |chan _ a _ b _ _ z H _ A q=>
    refine⟨i,a,_,b,z,H,rfl,h,D,A,q,λj=>?_⟩;obtain⟨o,y,B⟩:=S.fix _ j;rw[t]at y;cases y;exact B
theorem wV{c:CommCase}{r:Nat}(h:c.chan=.chan (J r))(hs:c.send=N):c=rcase r c.zero:=by
 obtain⟨a,b,z⟩:=c;simp only at h hs;subst h;subst hs;rfl
theorem A3{b:Outer}{T:Wk->Wj->Prop}{Post:Wx->Wj->Prop}{G:FuncId->Bool}(s:Leaf P b G T Post):∀h V,T h V->pB P b G [] Post h V:=by
 have F:∀ (gs:Array Wk) (g:Wk) (w:Wj),gs[0]?=J g->g.status=.running->∀j o,(j=0\/False)->gs[j]?=J o->o.again w=o:=λgs g w l hr j o r ho=>by
  rcases r with rfl|r
  .rw [l]at ho;cases ho;exact Conc.again_running _ (.inl hr)
  .exact r.elim
 have aa:∀ (gs:Array Wk) (g:Wk) (t:Trace) (q:Nat->Nat),gs[0]?=J g->g.status=.running->Lv P (λ_=>False) t gs q->∀x∈gs,awake x:=λgs g t q l hr u x X=>by
  obtain⟨i,n,rfl⟩:=Array.mem_iff_getElem.1 X;rcases Nat.eq_zero_or_pos i with rfl|f
  .have:gs[0]=g:=by simpa[eG n]using l
   rw[this];exact Conc.awake_of (.inl hr)
  .exact Conc.awake_of ((u.old i _ f (λk=>k) (eG n)).status.elim .inl λx=>.inr (.inr x))
 intro h V hT;intro gs g W sl t q ρ l u hP c;obtain⟨a,hM⟩:∃a,sumTo gs.size q<=a:=⟨_,lR _⟩;induction a using Nat.strongRecOn generalizing gs W sl t q with
 |_ a ih=>
  have hr:=c.go.status.2;have⟨i,x,d,D,n,X,z⟩:=crowd_pick (P:=P) (w:=W) (sl:=sl) (aa gs g t q l hr u) ⟨0,g,l,hr⟩;rcases Nat.eq_zero_or_pos i with rfl|f
  .obtain rfl:x=g:=by rw[l]at n;exact(oJ n).symm
   have⟨v,es,ρ',V',W',he,p,B,Q,ab⟩:=s h x V W ρ hT c d;have m:=Conc.runT_many_ended (P:=P) (sl:=D) (i:=0) n (show stepG P (0==0) x (W.at d)=_ from he);have A:=(hP.mono Q).own (fn:=x.frame.fn) (pos:=x.frame.place) (λe he=>ko B (ab e he));refine Fin.last (z.trans m) ⟨v,rfl,p,A.clean,A.over,⟨λy S=>?_,rfl⟩,λj y S r=>?_⟩
   .have ⟨j,r⟩:=List.mem_iff_getElem?.1 S;rw[List.getElem?_drop]at r;exact⟨_,(u.old (1+j) y (by omega) (λk=>k) (by simpa[crowd]using r)).leaves⟩
   .have hq:=u.old j y (by omega) (λk=>k) S;refine⟨q j,?_⟩;have e:(t++MemOp.ofEvents 0 x.frame.fn x.frame.place es).deaf j (t++MemOp.ofEvents 0 x.frame.fn x.frame.place es).size=Deaf t j:=
     Conc.Deaf_other t (g:=j) (g':=0) (by omega) _ (λop H=>by obtain⟨e,_,rfl⟩:=Conc.mem_ofEvents H;rfl)
    rw[e];exact hq.hears _
  .obtain ⟨L,q',R,e1,e2,e3,e4,e5,e6,-⟩:=slip u hP (ku W.heap.size) n X f (λk=>k) (F gs g _ l hr) z;exact Fin.next e1 (ih _ (by omega) L (W.at d) D (t++R) q' ((e3 0 (.inl rfl)).trans l) e4 e5 ⟨c.go,⟨c.sim.obj,c.sim.fix,c.sim.chan,c.sim.os,c.sim.pin⟩,c.gid,c.ext,c.calm,c.same,c.firm,c.quiet,c.out⟩ (lR _))
theorem Gd(hZ:bU P)(hN:cq P){l:Outer}{T:Wk->Wj->Prop}{Post:Wx->Wj->Prop}{G:FuncId->Bool}(a7:∀h V,T h V->pB P l G k' Post h V)(bs:vt P l G k' T Post){h:Wk}{V:Wj}(hD:Dem P.alt (λg _=>NB [trap P.alt] g) T h V):∀h2 V2,LSs P.alt T h V h2 V2->pB P l G k' Post h2 V2:=by
 have bp:∀ (gs:Array Wk) (g:Wk) (w:Wj),gs[0]?=J g->g.status=.running->∀j o,(j=0\/False)->gs[j]?=J o->o.again w=o:=λgs g w h0 hr j o hj ho=>by
  rcases hj with rfl|hj
  .rw [h0]at ho;cases ho;exact Conc.again_running _ (.inl hr)
  .exact hj.elim
 have b7:∀ (gs:Array Wk) (g:Wk) (t:Trace) (q:Nat->Nat),gs[0]?=J g->g.status=.running->Lv P (λ_=>False) t gs q->∀x∈gs,awake x:=λgs g t q h0 hr hL x hx=>by
  obtain⟨i,hi,rfl⟩:=Array.mem_iff_getElem.1 hx;rcases Nat.eq_zero_or_pos i with rfl|av
  .have:gs[0]=g:=by simpa[eG hi]using h0
   rw[this];exact Conc.awake_of (.inl hr)
  .exact Conc.awake_of ((hL.old i _ av (λk=>k) (eG hi)).status.elim .inl λx=>.inr (.inr x))
 induction hD with
 | @stop h V hT=>
  intro h2 V2 hs;cases hs with
  |step bn _ _ _ _=>exact absurd hT bn
  |refl=>exact a7 _ _ hT
 | @step h V b2 hT b5 hn a0=>
  intro h2 V2 hs;cases hs with
  |step bn τ d hl hs=>exact a0 τ d _ _ hl h2 V2 hs
  |refl=>
   intro gs g W sl t q ρ h0 hL hP s;obtain⟨p,hM⟩:∃p,sumTo gs.size q<=p:=⟨_,lR _⟩;induction p using Nat.strongRecOn generalizing gs W sl t q with
   |_ p ih=>
    have hr:=s.go.status.2;have⟨i,x,d,ad,hi,hx,a3⟩:=crowd_pick (P:=P) (w:=W) (sl:=sl) (b7 gs g t q h0 hr hL) ⟨0,g,h0,hr⟩;rcases Nat.eq_zero_or_pos i with rfl|av
    .obtain rfl:x=g:=by rw[h0]at hi;exact(oJ hi).symm
     have S:bN ρ (V.on W.tape d) (W.at d):=⟨s.sim.obj,s.sim.fix,s.sim.chan,s.sim.os,s.sim.pin⟩;have b4:Base ([trap P.alt],k') h.frame x.callers:=λe=>b2 (s.go.callers.tail e)
     have sf:=jl hZ s.ext hN s.gid Y s.go b4 S (λi=>rfl);have⟨h',V',al⟩:=b5 W.tape d;have z:=s.calm;rcases sf.rel with⟨-,L⟩|⟨ab,B⟩|⟨f,ρ',a,a',fr,b6,cs,bv,u,u',es,a4,A⟩
     .cases al with
      |go e bb a5=>
       have L:Lost (stepG P.alt Y h (V.on W.tape d)):=L;rw[e]at L;obtain⟨⟨_,_,e2,-⟩,-⟩:=L;rw[a5]at e2;cases e2
      |comm e _=>
       have L:Lost (stepG P.alt Y h (V.on W.tape d)):=L;rw[e]at L;exact L.elim
     .have ab:stepG P.alt Y h (V.on W.tape d)=stepG P Y h (V.on W.tape d):=ab;have H:=al;cases al with
      | @go _ _ es e bb a5=>
       rw[ab]at e;have B:dr P ρ ([trap P.alt],k') (V.on W.tape d) (W.at d) (stepG P Y h (V.on W.tape d)) (stepG P Y x (W.at d)):=B;rw[e]at B;generalize hy:stepG P Y x (W.at d)=y at B;cases B with
       | @go _ g' _ W' _ a4 ρ' R hg he=>
        obtain⟨ar,a9,e1,e2,e3,e4,-,e6⟩:=qI hL hi (.inl rfl) a3 (show stepG P (0==0) x (W.at d)=_ from hy);subst e2;have a8:=(hP.mono (show W.heap.size<=W'.heap.size from R.keep.size)).own (fn:=x.frame.fn) (pos:=x.frame.place) (λe k=>ko R.sim (he e k));exact Fin.next e1 (a0 W.tape d _ _ H _ _ (.refl _ _) ar g' W' ad _ q ρ' e4 e6 a8 ⟨hg,R.sim,s.gid.mono R.le,by rw[R.le.F];exact s.ext,by rw[R.le.F];exact z,R.le.F.trans s.same,⟨R.le.loose.trans s.firm.1,R.le.wide.trans s.firm.2⟩,Quiet.reach (w:=V.on W.tape d) s.quiet z R,Kp.reach (w':=W.at d) s.out R⟩)
      | @comm h1 c sh V1 es _ _ e hc=>
       rw[ab]at e;have B:dr P ρ ([trap P.alt],k') (V.on W.tape d) (W.at d) (stepG P Y h (V.on W.tape d)) (stepG P Y x (W.at d)):=B;rw[e]at B;generalize hy:stepG P Y x (W.at d)=y at B;cases B with
       | @comm _ g' _ c' hC _ b8 hrun _ W1 _ a4 ρ' R hg ap he _=>
        have Q:c.send=none:=by
         cases hx:c.send with
         |none=>rfl
         |some v=>rw[hC.1 (by rw[hx];rfl)]at z;cases z
        have a1:c'.send=none:=by
         rcases ap.send with⟨-,k⟩|⟨v,_,k,-⟩
         .exact k
         .rw [Q]at k;cases k
        have a2:ρ'.F gq=false:=by rw[R.le.F];exact z
        have aa:Quiet ρ' V1:=Quiet.reach (w:=V.on W.tape d) s.quiet z R;have D:ρ'.loose=Z/\ρ'.wide=false:=⟨R.le.loose.trans s.firm.1,R.le.wide.trans s.firm.2⟩;have bq:=(hP.mono (show W.heap.size<=W1.heap.size from R.keep.size)).own (fn:=x.frame.fn) (pos:=x.frame.place) (λe k=>ko R.sim (he e k));have a6:∀op∈MemOp.ofEvents 0 x.frame.fn x.frame.place a4,op.act≠.mark .disable/\op.act≠.mark .enable:=λop ac=>by
         obtain⟨e,k,rfl⟩:=Conc.mem_ofEvents ac;have k:=he e k;obtain⟨ca,wr,sy⟩:=e;cases ca with
         |mark m=>cases(show RMk m from k)<;>exact⟨by simp[MemAct.ofEvent],by simp[MemAct.ofEvent]⟩
         |goroutines=>exact k.elim
         |_=>cases wr<;>cases sy<;>exact⟨by simp[MemAct.ofEvent],by simp[MemAct.ofEvent]⟩
        have be:0<gs.size:=(eS h0).1;have bd:∀ (g2:Wk) (W2:Wj) (u:Trace),runT P (crowd gs (W.at d) ad) 0=(.next (crowd (gs.setIfInBounds 0 g2) W2 ad),MemOp.ofEvents 0 x.frame.fn x.frame.place a4++u)->(∀op∈u,op.g=0/\du W1.heap.size op.act)->W2.heap.size=W1.heap.size->Rel P l G k' ρ' _ g2 _ W2->Fin P Post gs W sl t:=λg2 W2 u bx hu bt b9=>by
         refine Fin.next (a3.trans bx) (a0 W.tape d _ _ H _ _ (.refl _ _) (gs.setIfInBounds 0 g2) g2 W2 ad _ q ρ' (by simp[be]) ?_ ?_ b9)
         .refine hL.put (λop ac=>?_) (by simp) (λj hj _=>by rw[sN (by omega)]);rcases Array.mem_append.1 ac with k|k
          .exact a6 op k
          .exact (hu op k).2.still
         .rw [<-Array.append_assoc,bt];exact A2 bq hu
        cases hc with
        |send k1 k2 k3 k4=>rw[Q]at k2;cases k2
        |dead k1 k2 k3=>rw[Q]at k2;cases k2
        | @recv r b3 bo bi buf cl tm k1 k2 k3 k4=>
         exfalso;have⟨r',bk,af,bw,s',q',m1,m2,m3,m4,m5,m6⟩:=qJ R.sim ap k1 k3;obtain⟨n,s0,q0,tm0,e0⟩:=aa.2 r r' _ m2 k3 rfl;cases e0;simp at k4
        | @shut r b3 bo bi tm k1 k2 k3=>
         have⟨r',bk,af,bw,s',q',m1,m2,m3,m4,m5,m6⟩:=qJ R.sim ap k1 k3;have m4:RVs ρ' #[] af:=m4.resolve_left (by rw[D.1];exactλh=>by cases h);obtain rfl:=m5.resolve_left (by rw[D.2];exactλh=>by cases h);obtain rfl:af=#[]:=Array.eq_empty_of_size_eq_zero (by rw[<-m4.size];rfl);have bl:=wV m1 a1;have b0:=(R.sim.lt m2).2;rw[bl]at hy;refine bd _ _ _ (Conc.crowd_recv_closed (i:=0) hi (show stepG P (0==0) x (W.at d)=_ from hy) m3 (hL.alone r' Y)) (λop ac=>?_) rfl ⟨?_,R.sim,s.gid.mono R.le,by rw[R.le.F];exact s.ext,a2,R.le.F.trans s.same,D,aa,Kp.reach (w':=W.at d) s.out R⟩
         .simp at ac;subst ac;exact⟨rfl,b0⟩
         .rw [<-bl];exact dK hg ap sh b8 ap.zero Z
     .have H:=al;have ho:stepG P.alt Y h (V.on W.tape d)=_:=A.other;cases al with
      |comm e _=>rw[ho]at e;cases e
      |go e bb a5=>
       rw[ho]at e;cases e;have b1:stepG P Y x (W.at d)=_:=A.there;obtain⟨ar,a9,e1,e2,e3,e4,-,e6⟩:=qI hL hi (.inl rfl) a3 (show stepG P (0==0) x (W.at d)=_ from b1);subst e2;have a8:=(hP.mono (show W.heap.size<=u'.heap.size from A.reach.keep.size)).own (fn:=x.frame.fn) (pos:=x.frame.place) (λe k=>ko A.reach.sim (A.ev e k));have X:=A.reach.le;refine Fin.next e1 (bs f a a' fr b6 cs bv _ u' ρ' (by rw[X.F];exact A.mark) A.args ⟨⟨A.frame,A.callers,A.kind,⟨rfl,rfl⟩,⟨rfl,rfl⟩,rfl,rfl⟩,A.reach.sim,s.gid.mono X,by rw[X.F];exact s.ext,by rw[X.F];exact z,X.F.trans s.same,⟨X.loose.trans s.firm.1,X.wide.trans s.firm.2⟩,Quiet.reach (w:=V.on W.tape d) s.quiet z A.reach,Kp.reach (w':=W.at d) s.out A.reach⟩ (hn _ _ _ _ H) (λh2 V2 hs=>a0 _ _ _ _ H h2 V2 hs) ar ad _ q e4 e6 a8)
    .obtain ⟨ar,q',a9,e1,e2,e3,e4,e5,e6,-⟩:=slip hL hP (ku W.heap.size) hi hx av (λk=>k) (bp gs g _ h0 hr) a3;exact Fin.next e1 (ih _ (by omega) ar (W.at d) ad (t++a9) q' ((e3 0 (.inl rfl)).trans h0) e4 e5 ⟨s.go,⟨s.sim.obj,s.sim.fix,s.sim.chan,s.sim.os,s.sim.pin⟩,s.gid,s.ext,s.calm,s.same,s.firm,s.quiet,s.out⟩ (lR _))
end
end
section
open Go.Conc (crowd Past EvL Deaf QuitsD woken awake crowd_pick runT_crowd_go rcase scase parked ph Knows Before touchAt touch_of touchAt_of getElem?_append_cases getElem?_append_old knows_own noRace_append lt_size_of_getElem?)
def Tk(ρ:Ren)(a:Touch):Prop:=
 match a.loc with
 | .cell b=>∃x,ρ x b.block/\(a.write=Y->¬ρ.old x)/\¬ρ.ch x
 | .obj r=>∃x,ρ x r/\(a.write=Y->¬ρ.old x)/\(a.kind≠.atomic->¬ρ.ch x)
 |_=>True
theorem Tk.mono{ρ ρ':Ren}(l:ρ.le ρ'){a:Touch}(h:Tk ρ a):Tk ρ' a:=by
 obtain⟨d,wr,kd⟩:=a;cases d with
 |cell ad=>obtain⟨x,h1,b,c⟩:=h;exact⟨x,l _ _ h1,by rw[l.old];exact b,by rw[l.ch];exact c⟩
 |obj r=>obtain⟨x,h1,b,c⟩:=h;exact⟨x,l _ _ h1,by rw[l.old];exact b,by rw[l.ch];exact c⟩
 |_=>trivial
theorem IU{ρ:Ren}{e:Event}(h:jg ρ e){a:Touch}(b:(MemAct.ofEvent e).touch?=J a):Tk ρ a:=by
 obtain⟨c,wr,f⟩:=e;cases c with
 |cell ad=>
  simp only[MemAct.ofEvent,MemAct.touch?,oI]at b;subst b;exact h
 |obj r=>
  obtain⟨x,h1,i,d⟩:=h;cases wr<;>cases f<;>simp only[MemAct.ofEvent,MemAct.touch?,oI]at b<;>first|cases b;done|(subst b;exact⟨x,h1,i,λk=>d (by first|rfl|exact absurd rfl k)⟩)
 |mark m=>
  have h:RMk m:=h;cases h<;>simp[MemAct.ofEvent,MemAct.touch?]at b
 |output=>
  simp only[MemAct.ofEvent,MemAct.touch?,oI]at b;subst b;trivial
 |goroutines=>exact h.elim
def Far(ρ ρ':Ren):Prop:=∀b x y,ρ x b->ρ' y b->(ρ.old x/\ρ'.old y)\/(ρ.ch x/\ρ'.ch y)
theorem Far.symm{ρ ρ':Ren}(h:Far ρ ρ'):Far ρ' ρ:=λb x y h1 a=>(h b y x a h1).imp (λk=>⟨k.2,k.1⟩) (λk=>⟨k.2,k.1⟩)
theorem Far.no{ρ ρ':Ren}(h:Far ρ ρ'){a b:Touch}(s:Tk ρ a)(p:Tk ρ' b)(f:Bool):¬a.conflicts f b:=by
 obtain⟨v,wa,u⟩:=a;obtain⟨lb,wb,A⟩:=b;rintro⟨h1,o,c,t⟩;simp only at h1 o c t;subst h1;cases v with
 |cell ad=>
  obtain⟨x,m,l,i⟩:=s;obtain⟨y,j,n,q⟩:=p;rcases h _ x y m j with⟨d,e⟩|⟨d,-⟩
  .rcases c with c|c
   .exact l c d
   .exact n c e
  .exact i d
 |obj r=>
  obtain⟨x,m,l,i⟩:=s;obtain⟨y,j,n,q⟩:=p;rcases h _ x y m j with⟨d,e⟩|⟨d,e⟩
  .rcases c with c|c
   .exact l c d
   .exact n c e
  .have z:u=.atomic:=Classical.byContradiction λk=>i k d
   have B:A=.atomic:=Classical.byContradiction λk=>q k e
   subst z;subst B;rcases t with h|h|⟨_,h,_⟩<;>cases h
 |_=>simp[Loc.isMemory]at o
structure PhT (p q:Nat)(ρ ρ':Ren)(B:Nat)(t:Trace):Prop where
 ne:p≠q
 clean:∀said,¬Race said t
 kp:∀i a,touchAt t i=J a->a.loc.isMemory=Y->Knows t p i\/(t.g? i=J q/\Tk ρ' a)
 kq:∀i a,touchAt t i=J a->a.loc.isMemory=Y->Knows t q i\/(t.g? i=J p/\Tk ρ a)
 hp:Deaf t p=0
 hq:Deaf t q=0
 seen:∀op∈t,op.act.low B
section
variable {p q:Nat} {ρ ρ' ρ1:Ren} {B B':Nat} {t u:Trace}
theorem PhT.symm(h:PhT p q ρ ρ' B t):PhT q p ρ' ρ B t:=⟨h.ne.symm,h.clean,h.kq,h.kp,h.hq,h.hp,h.seen⟩
theorem g?_old{i g:Nat}(h:t.g? i=J g):(t++u).g? i=J g:=by
 unfold Trace.g? at h ⊢;have⟨x,a,b⟩:=Option.map_eq_some_iff.1 h;rw[getElem?_append_old (lt_size_of_getElem? a),a];exact congrArg J b
theorem PhT.app(h:PhT p q ρ ρ' B t)(l:ρ.le ρ1)(hF:Far ρ1 ρ')(y:B<=B')(m:∀d∈u,d.g=p/\d.act.low B'/\(d.act≠.mark .disable/\d.act≠.mark .enable)/\∀a,d.act.touch?=J a->Tk ρ1 a):PhT p q ρ1 ρ' B' (t++u):=by
 refine⟨h.ne,λj=>noRace_append (h.clean j) (λd c=>(m d c).1) (λi a o d c b z v=>?_),λi a o s=>?_,λi a o s=>?_,?_,?_,λd c=>?_⟩
 .rcases h.kp i a o v.2.1 with k|⟨-,k⟩
  .exact k
  .exact absurd v (hF.symm.no k ((m d c).2.2.2 b z) j)
 .have ⟨x,r,f⟩:=touch_of o;rcases getElem?_append_cases r with⟨_,n⟩|⟨_,e⟩
  .exact (h.kp i a (by rw[touchAt_of n];exact f) s).imp (·.app u) (λk=>⟨g?_old k.1,k.2⟩)
  .have:=knows_own r;rw[(m x e).1]at this;exact .inl this
 .have ⟨x,r,f⟩:=touch_of o;rcases getElem?_append_cases r with⟨_,n⟩|⟨_,e⟩
  .exact (h.kq i a (by rw[touchAt_of n];exact f) s).imp (·.app u) (λk=>⟨g?_old k.1,k.2.mono l⟩)
  .exact .inr ⟨by simp[Trace.g?,r,(m x e).1],(m x e).2.2.2 a f⟩
 .rw [bK t p u (λd c=>(m d c).2.2.1)];exact h.hp
 .rw [bK t q u (λd c=>(m d c).2.2.1)];exact h.hq
 .rcases Array.mem_append.1 c with k|k
  .exact MemAct.low_mono y (h.seen d k)
  .exact (m d k).2.1
theorem yK{e:Event}(h:jg ρ e):MemAct.ofEvent e≠.mark .disable/\MemAct.ofEvent e≠.mark .enable:=by
 obtain⟨a,wr,b⟩:=e;cases a with
 |mark m=>cases(show RMk m from h)<;>exact⟨by simp[MemAct.ofEvent],by simp[MemAct.ofEvent]⟩
 |goroutines=>exact h.elim
 |_=>cases wr<;>cases b<;>exact⟨by simp[MemAct.ofEvent],by simp[MemAct.ofEvent]⟩
theorem kw{V W:Wj}(S:bN ρ V W){es:Array Event}(b:∀e∈es,jg ρ e)(g:Nat)(fn:FuncId)(d:String):∀c∈MemOp.ofEvents g fn d es,c.g=g/\c.act.low W.heap.size/\(c.act≠.mark .disable/\c.act≠.mark .enable)/\∀a,c.act.touch?=J a->Tk ρ a:=λc h=>by
 obtain⟨e,f,rfl⟩:=Conc.mem_ofEvents h;exact⟨rfl,(ko S (b e f)).2.2.2,yK (b e f),λa i=>IU (b e f) i⟩
theorem vu{b:MemOp}(h:du B b.act):b.act.low B/\(b.act≠.mark .disable/\b.act≠.mark .enable)/\∀a,b.act.touch?=J a->Tk ρ a:=⟨h.low,h.still,λa c=>by rw[h.none]at c;cases c⟩
theorem PhT.mute(h:PhT p q ρ ρ' B t){g:Nat}(h1:g≠p)(A:g≠q){fn:FuncId}{m:String}{es:Array Event}(o:∀e∈es,e.mute=Y):PhT p q ρ ρ' B (t++MemOp.ofEvents g fn m es):=by
 have j:∀d∈MemOp.ofEvents g fn m es,d.g=g/\d.act.touch?=N/\d.act.low B:=λd c=>by
  obtain⟨e,y,rfl⟩:=Conc.mem_ofEvents c;exact⟨rfl,Conc.touch_mute (o e y),Conc.low_mute (o e y) B⟩
 generalize MemOp.ofEvents g fn m es=u at j;refine⟨h.ne,λr=>noRace_append (h.clean r) (λd c=>(j d c).1) (λi a s d c b z hc=>by rw[(j d c).2.1]at z;cases z),λi a s o=>?_,λi a s o=>?_,?_,?_,λd c=>?_⟩
 .have ⟨x,v,f⟩:=touch_of s;rcases getElem?_append_cases v with⟨_,l⟩|⟨_,n⟩
  .exact (h.kp i a (by rw[touchAt_of l];exact f) o).imp (·.app u) (λk=>⟨g?_old k.1,k.2⟩)
  .rw [(j x n).2.1]at f;cases f
 .have ⟨x,v,f⟩:=touch_of s;rcases getElem?_append_cases v with⟨_,l⟩|⟨_,n⟩
  .exact (h.kq i a (by rw[touchAt_of l];exact f) o).imp (·.app u) (λk=>⟨g?_old k.1,k.2⟩)
  .rw [(j x n).2.1]at f;cases f
 .rw [Conc.Deaf_other t h1 u (λd c=>(j d c).1)];exact h.hp
 .rw [Conc.Deaf_other t A u (λd c=>(j d c).1)];exact h.hq
 .rcases Array.mem_append.1 c with k|k
  .exact h.seen d k
  .exact (j d k).2.2
theorem PhT.start(h:Past iy B t){k:Nat}(D:k≠0)(A:Deaf t k=0){x y:MemOp}(r:x.g=0/\x.act=.go k)(q:y.g=k/\y.act=.start):PhT 0 k ρ ρ' B (t++#[x,y]):=by
 have s:∀d∈(#[x,y]:Trace),d.act.touch?=N/\d.act.low B/\(d.act≠.mark .disable/\d.act≠.mark .enable):=λd c=>by
  simp at c;rcases c with rfl|rfl
  .rw [r.2];exact⟨rfl,trivial,by simp,by simp⟩
  .rw [q.2];exact⟨rfl,trivial,by simp,by simp⟩
 have e:t++#[x,y]=(t++#[x])++#[y]:=by apply Array.ext';simp
 have m:∀i a,touchAt (t++#[x,y]) i=J a->touchAt t i=J a:=λi a l=>by
  have⟨z,F,j⟩:=touch_of l;rcases getElem?_append_cases F with⟨_,u⟩|⟨_,v⟩
  .rw [touchAt_of u];exact j
  .rw [(s z v).1]at j;cases j
 have f:∀i a,touchAt t i=J a->a.loc.isMemory=Y->Knows t 0 i:=λi a l o=>(h.known i a l o).resolve_right (λk=>k.1)
 refine⟨D.symm,λp=>?_,λi a l o=>.inl ((f i a (m i a l) o).app _),λi a l o=>.inl (ConcN.fork_knows r q h.hears A (f i a (m i a l) o)),?_,?_,λd c=>?_⟩
 .rw [e];refine noRace_append (g:=k) (noRace_append (g:=0) (h.clean p) (λd c=>by simp at c;subst c;exact r.1) (λi a _ d c b n _=>?_)) (λd c=>by simp at c;subst c;exact q.1) (λi a _ d c b n _=>?_)
  .simp at c;subst c;rw[r.2]at n;cases n
  .simp at c;subst c;rw[q.2]at n;cases n
 .rw [bK t 0 _ (λd c=>(s d c).2.2)];exact h.hears
 .rw [bK t k _ (λd c=>(s d c).2.2)];exact A
 .rcases Array.mem_append.1 c with k|k
  .exact h.seen d k
  .exact (s d k).2.1
structure PhC (c pc:Nat)(ρ':Ren)(B:Nat)(t:Trace):Prop where
 clean:∀said,¬Race said t
 k0:∀i a,touchAt t i=J a->a.loc.isMemory=Y->Knows t 0 i\/(Before t i pc/\Tk ρ' a)
 act:t.act? pc=J (.close c)
 heard:t.heard pc
 h0:Deaf t 0=0
 seen:∀op∈t,op.act.low B
variable {c pc:Nat}
theorem oh{i:Nat}(h:t.heard i):(t++u).heard i:=by
 obtain⟨g,h1,a⟩:=h;have hi:i<t.size:=by
  unfold Trace.g? at h1;have⟨x,b,_⟩:=Option.map_eq_some_iff.1 h1;exact lt_size_of_getElem? b
 exact⟨g,g?_old h1,by rw[Conc.deaf_old (by omega)];exact a⟩
theorem act?_keep{i:Nat}{a:MemAct}(h:t.act? i=J a):(t++u).act? i=J a:=by rw[Conc.act?_old (Conc.lt_of_act? h)];exact h
theorem PhT.close(h:PhT 0 q ρ ρ' B t){y:MemOp}(f:y.g=q/\y.act=.close c)(v:c<B):PhC c t.size ρ' B (t++#[y]):=by
 have e:(t++#[y])[t.size]?=J y:=by rw[Array.getElem?_append_right (lR _)];simp
 refine⟨λm=>noRace_append (g:=q) (h.clean m) (λo d=>by simp at d;subst d;exact f.1) (λi a _ o d b p _=>by simp at d;subst d;rw[f.2]at p;cases p),λi a u s=>?_,by rw[Conc.act?_of e,f.2],⟨q,by simp[Trace.g?,f.1],by rw[Conc.deaf_old (lR _)];exact h.hq⟩,?_,λo d=>?_⟩
 .have ⟨x,r,j⟩:=touch_of u;rcases getElem?_append_cases r with⟨z,l⟩|⟨_,n⟩
  .rcases h.kp i a (by rw[touchAt_of l];exact j) s with k|⟨k1,k2⟩
   .exact .inl (k.app _)
   .refine .inr ⟨.inr (Conc.hb_po z r e ?_),k2⟩;have:x.g=q:=by simpa[Trace.g?,l]using k1
    rw[this,f.1]
  .simp at n;subst n;rw[f.2]at j;cases j
 .rw [bK t 0 _ (λo d=>by simp at d;subst d;rw[f.2];exact⟨by simp,by simp⟩)];exact h.hp
 .rcases Array.mem_append.1 d with k|k
  .exact h.seen o k
  .simp at k;subst k;rw[f.2];exact v
theorem PhC.app(h:PhC c pc ρ' B t)(hF:Far ρ1 ρ')(s:B<=B')(j:∀e∈u,e.g=0/\e.act.low B'/\(e.act≠.mark .disable/\e.act≠.mark .enable)/\∀a,e.act.touch?=J a->Tk ρ1 a):PhC c pc ρ' B' (t++u):=by
 refine⟨λf=>noRace_append (h.clean f) (λe d=>(j e d).1) (λi a n e d b v p=>?_),λi a n r=>?_,act?_keep h.act,oh h.heard,?_,λe d=>?_⟩
 .rcases h.k0 i a n p.2.1 with k|⟨-,k⟩
  .exact k
  .exact absurd p (hF.symm.no k ((j e d).2.2.2 b v) f)
 .have ⟨x,q,o⟩:=touch_of n;rcases getElem?_append_cases q with⟨_,l⟩|⟨_,m⟩
  .exact (h.k0 i a (by rw[touchAt_of l];exact o) r).imp (·.app u) (λk=>⟨k.1.app u,k.2⟩)
  .have:=knows_own q;rw[(j x m).1]at this;exact .inl this
 .rw [bK t 0 u (λe d=>(j e d).2.2.1)];exact h.h0
 .rcases Array.mem_append.1 d with k|k
  .exact MemAct.low_mono s (h.seen e k)
  .exact (j e k).2.1
theorem PhC.mute(h:PhC c pc ρ' B t){g:Nat}(h1:g≠0){fn:FuncId}{j:String}{es:Array Event}(o:∀e∈es,e.mute=Y):PhC c pc ρ' B (t++MemOp.ofEvents g fn j es):=by
 have m:∀f∈MemOp.ofEvents g fn j es,f.g=g/\f.act.touch?=N/\f.act.low B:=λf d=>by
  obtain⟨e,r,rfl⟩:=Conc.mem_ofEvents d;exact⟨rfl,Conc.touch_mute (o e r),Conc.low_mute (o e r) B⟩
 generalize MemOp.ofEvents g fn j es=u at m;refine⟨λn=>noRace_append (h.clean n) (λf d=>(m f d).1) (λi a s f d b v hc=>by rw[(m f d).2.1]at v;cases v),λi a s o=>?_,act?_keep h.act,oh h.heard,?_,λf d=>?_⟩
 .have ⟨x,y,l⟩:=touch_of s;rcases getElem?_append_cases y with⟨_,p⟩|⟨_,q⟩
  .exact (h.k0 i a (by rw[touchAt_of p];exact l) o).imp (·.app u) (λk=>⟨k.1.app u,k.2⟩)
  .rw [(m x q).2.1]at l;cases l
 .rw [Conc.Deaf_other t h1 u (λf d=>(m f d).1)];exact h.h0
 .rcases Array.mem_append.1 d with k|k
  .exact h.seen f k
  .exact (m f k).2.2
theorem PhC.done(h:PhC c pc ρ' B t){y:MemOp}(l:y.g=0/\y.act=.recvClosed c)(Q:c<B):Past iy B (t++#[y]):=by
 have f:(t++#[y])[t.size]?=J y:=by rw[Array.getElem?_append_right (lR _)];simp
 have L:(t++#[y]).heard t.size:=⟨0,by simp[Trace.g?,l.1],by rw[Conc.deaf_old (lR _)];exact h.h0⟩;have u:HappensBefore (t++#[y]) pc t.size:=.single (.inr ⟨.closed (act?_keep h.act) (by rw[Conc.act?_of f,l.2]),oh h.heard,L⟩);have e:∀i a,touchAt (t++#[y]) i=J a->a.loc.isMemory=Y->Knows (t++#[y]) 0 i:=λi a r p=>by
  have⟨x,P,m⟩:=touch_of r;rcases getElem?_append_cases P with⟨_,A⟩|⟨_,o⟩
  .rcases h.k0 i a (by rw[touchAt_of A];exact m) p with k|⟨k,-⟩
   .exact k.app _
   .exact ⟨t.size,y,f,l.1,(k.app _).trans (.inr u)⟩
  .simp at o;subst o;rw[l.2]at m;cases m
 refine⟨λq=>noRace_append (g:=0) (h.clean q) (λv d=>by simp at d;subst d;exact l.1) (λi a _ v d b n _=>by simp at d;subst d;rw[l.2]at n;cases n),λi a r p=>.inl (e i a r p),λi g G D F=>?_,?_,λv d=>?_⟩
 .obtain ⟨a,r,p,-⟩:=F;have⟨j,z,H,s,n⟩:=e i a r p;refine⟨j,by unfold Trace.g?;rw[H];exact congrArg J s,?_⟩;rcases n with rfl|n
  .rw [Trace.g?,H]at G;exact absurd (by simpa[s]using G.symm) D
  .exact n
 .rw [bK t 0 _ (λv d=>by simp at d;subst d;rw[l.2];exact⟨by simp,by simp⟩)];exact h.h0
 .rcases Array.mem_append.1 d with k|k
  .exact h.seen v k
  .simp at k;subst k;rw[l.2];exact Q
end
end
section
open Go.Conc (crowd Past EvL Deaf QuitsD woken awake crowd_pick runT_crowd_go rcase scase parked ph)
theorem yL(p:Wv)(g:Wk)(h:g.callers≠[])(w:Wj):stepG p Y g w=stepG p Z g w:=by
 obtain⟨a,cs,st,dy,of⟩:=g;cases cs with
 |nil=>exact absurd rfl h
 |cons c cs=>
  have b:∀ (d:Option Dying) (v:Wx) (u:Wj),doReturn p Y a (c::cs) d v u=doReturn p Z a (c::cs) d v u:=λd v u=>rfl
  have f:∀ (d:Option Dying),unwind p Y a (c::cs) d w=unwind p Z a (c::cs) d w:=λd=>by
   unfold unwind;simp only[b]
  have e:∀ (d:Option Dying),stepG.exec p Y Y a (c::cs) d w=stepG.exec p Z Y a (c::cs) d w:=λd=>by
   unfold stepG.exec;simp only[b]
  simp only[stepG,f,e]
def Flat(v:Wx):Prop:=∀ρ,RV ρ v v/\∀a,RV ρ v a->a=v
structure Side (P:Wv) [Two P](X:List Wy×List Wy)(ρ:Ren)(h g:Wk)(V W:Wj)(cV c:Nat)(L:List Wx):Prop where
 go:RGo P ρ X h g
 sim:bN ρ V W
 gid:GId P ρ
 ext:fY P ρ.F
 calm:ρ.F gq=Z/\ρ.F mz=Z
 loose:ρ.loose=Y/\ρ.wide=Y
 ch:ρ.ch cV
 pair:ρ cV c
 row:∃n b s q tm,V.heap[cV]?=J (.chan n b Y s q tm)/\b.toList=L
structure Snd (P:Wv) [Two P](X:List Wy×List Wy)(ρ:Ren)(h g:Wk)(V W:Wj)(cs c:Nat)(L:List Wx):Prop where
 go:RGo P ρ X h g
 sim:bN ρ V W
 gid:GId P ρ
 ext:fY P ρ.F
 calm:ρ.F Hx=Z/\ρ.F mz=Z
 unmk:∀f,¬Mk ρ.F f=Y
 loose:ρ.loose=Y/\ρ.wide=Z
 ch:∀x,ρ.ch x↔x=cs
 pair:ρ cs c
 row:∃n b s q tm,V.heap[cs]?=J (.chan n b Z s q tm)/\b.toList=L
 only:∀ (a n:Nat) b s q tm,V.heap[a]?=J (.chan n b Z s q tm)->a=cs
section
variable {P:Wv} [Two P] {X:List Wy×List Wy} {ρ:Ren} {h g h':Wk} {V V' W:Wj} {cV c:Nat} {L:List Wx}
omit [Two P]in
theorem RFs.len1{ρ:Ren}{X:List Wy×List Wy}{l:List Wy}(h:RFs P ρ X l k'):X.1.length<=l.length:=by
 induction h with
 |base=>exact lR _
 |cons _ _ _ ih=>simp only[lC];omega
theorem oi(x:bU P)(B:cq P)(m:Bool)(l:RGo P ρ X h g)(v:Base X h.frame g.callers)(S:bN ρ V W)(t:GId P ρ)(s:fY P ρ.F)(d:Nat)(p:stepG P.alt m h (V.on W.tape d)=stepG P.alt Y h (V.on W.tape d))(u:LS P.alt h (V.on W.tape d) h' V')(n:∀f y o k D q,Mk ρ.F f=Y->stepG P m g (W.at d)=.go {frame:=Frame.enter P f y .normal,callers:=o::k,status:=.running,dying:=N} D q->False):
  stepG P m h (V.on W.tape d)=stepG P.alt Y h (V.on W.tape d)/\dr P ρ X (V.on W.tape d) (W.at d) (stepG P.alt Y h (V.on W.tape d)) (stepG P m g (W.at d)):=by
 have S':bN ρ (V.on W.tape d) (W.at d):=⟨S.obj,S.fix,S.chan,S.os,S.pin⟩;have z:=jl x s B t m l v S' (λi=>rfl);rcases z.rel with⟨-,a⟩|⟨b,c⟩|⟨f,_,_,_,_,_,_,_,_,_,_,_,A⟩
 .exfalso;have a:Lost (stepG P.alt m h (V.on W.tape d)):=a;rw[p]at a;cases u with
  |go e hr2 j=>
   rw[e]at a;obtain⟨⟨_,_,r,-⟩,-⟩:=a;rw[j]at r;cases r
  |comm e _=>rw[e]at a;exact a.elim
 .have b:stepG P.alt m h (V.on W.tape d)=stepG P m h (V.on W.tape d):=b;have c:dr P ρ X (V.on W.tape d) (W.at d) (stepG P m h (V.on W.tape d)) (stepG P m g (W.at d)):=c;rw[<-b,p]at c;exact⟨b.symm.trans p,c⟩
 .exact (n f _ _ _ _ _ A.mark A.there).elim
theorem nu(l:bU P)(n:cq P)(m:Bool)(a:RGo P ρ X h g)(k:Base X h.frame g.callers)(S:bN ρ V W)(i:GId P ρ)(c:fY P ρ.F)(b:∀f,¬Mk ρ.F f=Y)(d:Nat)(e:stepG P.alt m h (V.on W.tape d)=stepG P.alt Y h (V.on W.tape d))(j:LS P.alt h (V.on W.tape d) h' V'):
  stepG P m h (V.on W.tape d)=stepG P.alt Y h (V.on W.tape d)/\dr P ρ X (V.on W.tape d) (W.at d) (stepG P.alt Y h (V.on W.tape d)) (stepG P m g (W.at d)):=
 oi l n m a k S i c d e j (λf _ _ _ _ _ h _=>b f h)
omit [Two P]in
theorem bN.other(S:bN ρ V W){W':Wj}{l h:Nat}(q:ρ l h)(n:W'.os=W.os)(hs:∀x b,ρ x b->b≠h->W'.heap[b]?=W.heap[b]?)(y:∀o f,V.heap[l]?=J o->W.heap[h]?=J f->RO ρ o f->∃j,W'.heap[h]?=J j/\RO ρ o j)(m:∀c e z,V.heap[l]?≠J (E c e z)):bN ρ V W':=by
 refine⟨λa b d=>?_,S.fix,S.chan,n.trans S.os,λi a A u=>?_⟩
 rotate_left
 .have ⟨b,d,s⟩:=S.pin i a A u;refine⟨b,d,s.same rfl (hs a b d (λe=>?_))⟩;subst e;obtain rfl:=ρ.inj _ _ _ d q;obtain⟨c,t,z,_,_,k,-⟩:=s;exact m c t z k
 have⟨o,f,h1,p,r⟩:=S.obj a b d;by_cases i:b=h
 .subst i;obtain rfl:=ρ.inj _ _ _ d q;have⟨j,k,v⟩:=y o f h1 p r;exact⟨o,j,h1,k,v⟩
 .exact ⟨o,f,h1,by rw[hs a b d i];exact p,r⟩
def kZ(W:Wj)(c n:Nat)(b:List Wx)(cl:Bool)(s q:Nat)(tm:Bool):Prop:=∃a,W.heap[c]?=J (.chan n a cl s q tm)/\a.toList=b
theorem Side.rowW(S:Side P X ρ h g V W cV c L):∃n b e s q d,kZ W c n b e s q d:=by
 have⟨n,b,s,q,d,h1,h2⟩:=S.row;obtain⟨o,o',a,f,i⟩:=S.sim.obj _ _ S.pair;rw[h1]at a;cases a;cases i with
 |chan=>exact⟨_,_,_,_,_,_,_,f,rfl⟩
theorem Side.other(S:Side P X ρ h g V W cV c L){W':Wj}(e:W'.os=W.os)(hs:∀x Q,ρ x Q->Q≠c->W'.heap[Q]?=W.heap[Q]?){n l:Nat}{t:List Wx}{p i:Bool}{s q u:Nat}{tm:Bool}(h1:kZ W c n Q p s q tm)(f:kZ W' c l t i m u tm):Side P X ρ h g V W' cV c L:=by
 obtain⟨a,h1,-⟩:=h1;obtain⟨a',f,-⟩:=f;refine⟨S.go,S.sim.other S.pair e hs (λo o' j d r=>?_) (λ_ _ _ k=>by obtain⟨_,_,_,_,_,d,-⟩:=S.row;rw[d]at k;cases k),S.gid,S.ext,S.calm,S.loose,S.ch,S.pair,S.row⟩;rw[h1]at d;cases d;refine⟨_,f,?_⟩;cases r with
 |chan=>exact .chan _ _ _ _ _ _ _ _ _ (.inl S.loose.1) (.inl S.loose.2)
 |dead=>obtain⟨_,_,_,_,_,k,-⟩:=S.row;rw[k]at j;cases j
theorem Snd.rowW{cs:Nat}(S:Snd P X ρ h g V W cs c L):∃n b s q d,kZ W c n b Z s q d:=by
 have⟨n,b,s,q,d,h1,h2⟩:=S.row;obtain⟨o,o',a,e,f⟩:=S.sim.obj _ _ S.pair;rw[h1]at a;cases a;cases f with
 |chan _ _ _ cl' _ _ _ _ _ hb i=>
  obtain rfl:=i.resolve_left (by rw[S.loose.2];exactλh=>by cases h);exact⟨_,_,_,_,_,_,e,rfl⟩
theorem Snd.other{cs:Nat}(S:Snd P X ρ h g V W cs c L){W':Wj}(e:W'.os=W.os)(hs:∀x Q,ρ x Q->Q≠c->W'.heap[Q]?=W.heap[Q]?){n j:Nat}{p:List Wx}{s q l r:Nat}{tm:Bool}(h1:kZ W c n Q Z s q tm)(f:kZ W' c j p Z l r tm):Snd P X ρ h g V W' cs c L:=by
 obtain⟨a,h1,-⟩:=h1;obtain⟨a',f,-⟩:=f;refine⟨S.go,S.sim.other S.pair e hs (λo o' i d m=>?_) (λ_ _ _ k=>by obtain⟨_,_,_,_,_,d,-⟩:=S.row;rw[d]at k;cases k),S.gid,S.ext,S.calm,S.unmk,S.loose,S.ch,S.pair,S.row,S.only⟩;rw[h1]at d;cases d;refine⟨_,f,?_⟩;cases m with
 |chan _ _ _ _ _ _ _ _ _ hb t=>exact .chan _ _ _ _ _ _ _ _ _ (.inl S.loose.1) t
 |dead=>obtain⟨_,_,_,_,_,k,-⟩:=S.row;rw[k]at i;cases i
theorem Side.stays(S:Side P X ρ h g V W cV c L){W':Wj}(d:W'.os=W.os)(hs:∀x b,ρ x b->b≠c->W'.heap[b]?=W.heap[b]?)(f:W'.heap[c]?=W.heap[c]?):Side P X ρ h g V W' cV c L:=by
 have⟨n,b,cl,s,q,tm,a,h1,e⟩:=S.rowW;exact S.other d hs ⟨a,h1,e⟩ ⟨a,f.trans h1,e⟩
theorem Snd.stays{cs:Nat}(S:Snd P X ρ h g V W cs c L){W':Wj}(d:W'.os=W.os)(hs:∀x b,ρ x b->b≠c->W'.heap[b]?=W.heap[b]?)(f:W'.heap[c]?=W.heap[c]?):Snd P X ρ h g V W' cs c L:=by
 have⟨n,b,s,q,tm,a,h1,e⟩:=S.rowW;exact S.other d hs ⟨a,h1,e⟩ ⟨a,f.trans h1,e⟩
end
end
section
open Go.Conc (crowd Past EvL Deaf QuitsD woken awake crowd_pick runT_crowd_go rcase scase parked ph)
section
variable {P:Wv} [Two P] {X:List Wy×List Wy} {ρ:Ren} {h1 g1 h:Wk} {V1 V W W':Wj} {cV c:Nat} {L:List Wx} {cc:CommCase} {v z:Wx} {sh:CommShape}
theorem Side.case_(S:Side P X ρ h1 g1 V1 W cV c L)(a:RC ρ cc (rcase c z)):cc.send=N/\(cc.chan=.chan (J cV)\/cc.chan=.tuple #[]):=by
 refine⟨?_,?_⟩
 .rcases a.send with⟨k,-⟩|⟨_,_,-,k,-⟩
  .exact k
  .cases k
 .have:=a.chan;simp only[rcase]at this;generalize cc.chan=x at this;cases this with
  |chan k=>
   cases k with
   |some k=>exact .inl (by rw[ρ.inj _ _ _ k S.pair])
  |dead=>exact .inr rfl
theorem Side.take(S:Side P X ρ h1 g1 V1 W cV c (v::L))(x:RC ρ cc (rcase c z))(al:∃ok,sh=.recv ok)(af:LC P.alt h1 cc sh V1 h V)(hv:Flat v)(ap:W'.os=W.os)(hs:∀b,b≠c->W'.heap[b]?=W.heap[b]?){n:Nat}{b b':List Wx}{p:Bool}{s q:Nat}{G:Bool}(R:kZ W c n b cl s q G)(F:kZ W' c n' b' p s' q' G):
  Side P X ρ h (g1.finishComm P #[rcase c z] sh 0 v Y) V W' cV c L:=by
 have⟨m,d⟩:=S.case_ x;have⟨n0,f,s0,q0,l,H,e2⟩:=S.row;have ar:(cc.send.isSome=Y/\sh=.send)\/(cc.send=N/\∃ok,sh=.recv ok):=.inr ⟨m,al⟩;have S2:=S.other ap (λ_ b _ hb=>hs b hb) R F;cases af with
 |send u t i k4=>rw[m]at t;cases t
 |dead u t i=>rw[m]at t;cases t
 | @shut r ac D Q G u t i=>
  rw[u]at d;rcases d with d|d
  .cases d;rw[H]at i;cases i;simp at e2
  .cases d
 | @recv r ac D Q buf cl G u t i k4=>
  rw[u]at d;rcases d with d|d
  .cases d;rw[H]at i;cases i;have ad:f.getD 0 Wo=v:=by
    rw[gD,<-gT,e2];rfl
   have ab:(f.extract 1 f.size).toList=L:=by
    have hl:f.toList.length=f.size:=lY;rw[Array.toList_extract,e2]at *;simp at hl ⊢;rw[<-hl];simp
   have aa:=(S.sim.lt S.pair).1;refine⟨?_,?_,S.gid,S.ext,S.calm,S.loose,S.ch,S.pair,⟨_,_,_,_,_,sS aa,ab⟩⟩
   .rw [ad];exact dK S.go x sh ar (hv ρ).1 Y
   .obtain ⟨a',F,-⟩:=F;have e:=S2.sim.put S.pair (o:=.chan n0 (f.extract 1 f.size) Y s0 (q0+1) l) (o':=.chan n' a' p s' q' _) (.chan _ _ _ _ _ _ _ _ _ (.inl S.loose.1) (.inl S.loose.2)) (λB=>by
     obtain⟨o,A,T⟩:=S.sim.fix _ B;rw[H]at A;cases A;exact T) (λ_=>rfl) (λ_ _ _ k=>by rw[H]at k;cases k)
    have av:l=G:=by
     obtain⟨o,o',A,T,f3⟩:=S.sim.obj _ _ S.pair;obtain⟨a,R,-⟩:=R;rw[H]at A;cases A;rw[R]at T;cases T;cases f3;rfl
    subst av;have y:c<W'.heap.size:=(eS F).1;have e3:W'.heap.setIfInBounds c (.chan n' a' p s' q' l)=W'.heap:=by
     apply Array.ext_getElem?;intro j;by_cases hj:c=j
     .subst hj;rw[sS y,F]
     .rw [sN hj]
    rw[e3]at e;exact e
  .cases d
theorem Side.nothing(S:Side P X ρ h1 g1 V1 W cV c [])(e:RC ρ cc (rcase c z))(k:∃l,sh=.recv l)(j:LC P.alt h1 cc sh V1 h V):Side P X ρ h (g1.finishComm P #[rcase c z] sh 0 z Z) V W cV c []:=by
 have⟨d,a⟩:=S.case_ e;have⟨n0,p,s0,q0,tm0,o,q⟩:=S.row;have m:(cc.send.isSome=Y/\sh=.send)\/(cc.send=N/\∃l,sh=.recv l):=.inr ⟨d,k⟩;cases j with
 |send i b f n=>rw[d]at b;cases b
 |dead i b f=>rw[d]at b;cases b
 |recv i b f n=>
  rw[i]at a;rcases a with a|a
  .cases a;rw[o]at f;cases f;have:p=#[]:=Array.toList_inj.1 (by simpa using q);rw[this]at n;simp at n
  .cases a
 |shut i b f=>exact⟨dK S.go e sh m e.zero Z,S.sim,S.gid,S.ext,S.calm,S.loose,S.ch,S.pair,S.row⟩
end
section
variable {P:Wv} [Two P] {X:List Wy×List Wy} {ρ:Ren} {h1 g1 h:Wk} {V1 V W W':Wj} {cs c:Nat} {L:List Wx} {cc:CommCase} {v z:Wx}
theorem Snd.case_(S:Snd P X ρ h1 g1 V1 W cs c L)(a:RC ρ cc (scase c v z)):(∃b,cc.send=J b/\RV ρ b v)/\(cc.chan=.chan (J cs)\/cc.chan=.tuple #[]):=by
 refine⟨?_,?_⟩
 .rcases a.send with⟨-,k⟩|⟨b,v1,k,e,d⟩
  .cases k
  .cases e;exact⟨b,k,d⟩
 .have:=a.chan;simp only[scase]at this;generalize cc.chan=x at this;cases this with
  |chan k=>
   cases k with
   |some k=>exact .inl (by rw[ρ.inj _ _ _ k S.pair])
  |dead=>exact .inr rfl
theorem Snd.push(S:Snd P X ρ h1 g1 V1 W cs c L)(t:RC ρ cc (scase c v z))(ab:LC P.alt h1 cc .send V1 h V)(ac:W'.os=W.os)(hs:∀b,b≠c->W'.heap[b]?=W.heap[b]?){n:Nat}{b b':List Wx}{s q R:Nat}{B:Bool}(G:kZ W c n b Z s q B)(A:kZ W' c n' b' Z R q' B):
  ∃F,RV ρ F v/\Snd P X ρ h (g1.finishComm P #[scase c v z] .send 0 Wo Z) V W' cs c (L++[F]):=by
 have⟨⟨F,f,aa⟩,d⟩:=S.case_ t;have⟨n0,b0,s0,q0,e,D,e2⟩:=S.row;have ad:(cc.send.isSome=Y/\CommShape.send=.send)\/(cc.send=.none/\∃ok,CommShape.send=.recv ok):=.inl ⟨by rw[f];rfl,rfl⟩;have S2:=S.other ac (λ_ b _ hb=>hs b hb) G A;cases ab with
 |recv p i m k4=>rw[f]at i;cases i
 |shut p i m=>rw[f]at i;cases i
 |dead p i m=>
  rw[p]at d;rcases d with d|d
  .cases d;rw[D]at m;cases m
  .cases d
 | @send r cap sent rcvd buf tm1 v1 p i m k4=>
  rw[f]at i;cases i;rw[p]at d;rcases d with d|d
  .cases d;rw[D]at m;cases m;have T:=(S.sim.lt S.pair).1;refine⟨F,aa,?_,?_,S.gid,S.ext,S.calm,S.unmk,S.loose,S.ch,S.pair,⟨_,_,_,_,_,sS T,by simp[e2]⟩,λa n b s q B ho=>?_⟩
   .exact dK S.go t .send ad dm Z
   .obtain ⟨a',A,-⟩:=A;have af:e=B:=by
     obtain⟨o,o',x,H,f3⟩:=S.sim.obj _ _ S.pair;obtain⟨a,G,-⟩:=G;rw[D]at x;cases x;rw[G]at H;cases H;cases f3;rfl
    subst af;have l:=S2.sim.put S.pair (o:=.chan n0 (b0.push F) Z (s0+1) q0 e) (o':=.chan n' a' Z R q' e) (.chan _ _ _ _ _ _ _ _ _ (.inl S.loose.1) (.inr rfl)) (λy=>by
     obtain⟨o,x,H⟩:=S.sim.fix _ y;rw[D]at x;cases x;exact H) (λ_=>rfl) (λ_ _ _ k=>by rw[D]at k;cases k)
    have u:c<W'.heap.size:=(eS A).1;have e3:W'.heap.setIfInBounds c (.chan n' a' Z R q' e)=W'.heap:=by
     apply Array.ext_getElem?;intro j;by_cases hj:c=j
     .subst hj;rw[sS u,A]
     .rw [sN hj]
    rw[e3]at l;exact l
   .by_cases ha:cs=a
    .exact ha.symm
    .simp only[sN ha]at ho;exact S.only a n b s q B ho
  .cases d
end
structure PhD (P:Wv) where
 T:Wk->Wj->Prop
 Nr:Wk->Wj->Prop
 Tr:Wk->Wj->Prop
 Ns:Wk->Wj->Prop
 Ts:Wk->Wj->Prop
 h0:Wk
 V0:Wj
 k:Nat
 c:Nat
 cV:Nat
 cr:Nat
 cs:Nat
 X:List Wy×List Wy
 Bs:List Wy
 L:List Wx
 R0:Nat->Nat->Prop
 Fp:FuncId->Bool
 Fr:FuncId->Bool
 bo:Nat
 U:Outer
variable {P:Wv} [Two P] (D:PhD P)
def eA(W:Wj)(c n:Nat)(b:Array Wx)(s q:Nat)(tm:Bool):Wj:=W.setChan c n b Y s q tm
structure A4 (D:PhD P)(ρ:Ren)(V W:Wj):Prop where
 base:(∀a b,D.R0 a b->ρ a b)/\ρ.F=D.Fp
 all:∀a b o,ρ a b->V.heap[a]?=J o->o.isChan=Y->ρ.ch a
 rest:∀a b,ρ.ch a->ρ a b->a≠D.cV->∃n s q tm n' s' q',V.heap[a]?=J (.chan n #[] Y s q tm)/\W.heap[b]?=J (.chan n' #[] Y s' q' tm)
structure wW (P:Wv) [Two P](D:PhD P)(Post:Wx->Wj->Prop):Prop where
 zero:bU P
 count:cq P
 mark:∀f,Mk D.Fp f=Y->∀fn b,P.funcs[f]?=J fn->fn.body=J b->aI P D.Fr b=Z
 k0:D.k≠0
 flat:∀v∈D.L,Flat v
 deep:2<=D.X.1.length
 leafT:∀h V,D.T h V->h.callers.length<=1
 nr:∀h V,D.Nr h V->NB [trap P.alt] h
 tr:∀h V,D.Tr h V->NB [trap P.alt] h/\(∀n b s q tm,V.heap[D.cr]?=J (.chan n b Y s q tm)->b.toList=[])/\∀τ d,∃h1 cc s V1 es h' V',stepG P.alt Y h (V.on τ d)=.comm h1 #[cc] Y s V1 es/\LC P.alt h1 cc s V1 h' V'
 ns:∀h V,D.Ns h V->NB [trap P.alt] h
 bs:D.Bs≠[]
 grow:∀h V τ d h' V',D.Ns h V->LS P.alt h (V.on τ d) h' V'->∀n b cl s q tm,V.heap[D.cs]?=J (.chan n b cl s q tm)->∃n' b' cl' s' q' tm',V'.heap[D.cs]?=J (.chan n' b' cl' s' q' tm')/\((b.toList <+:b'.toList/\(cl=Y->cl'=Y))\/cl'=Y)
 ts:∀h V,D.Ts h V->∀n b cl s q tm,V.heap[D.cs]?=J (.chan n b cl s q tm)->cl=Z/\b.toList=D.L
 close:∀h V ρ g W,D.Ts h V->Snd P ([trap P.alt],D.Bs) ρ h g V W D.cs D.c D.L->∀n b s q tm,W.heap[D.c]?=J (.chan n b Z s q tm)->∃g',mayWake P g=Y/\g'.status=.running/\stepG P Z g W=.go g' (eA W D.c n b s q tm) #[⟨.obj D.c,Z,Y⟩,⟨.obj D.c,Y,Y⟩]/\∃m,QuitsD P m 0 g'
 fin:∀ρ h g V W n s q tm gs sl t qs,Side P D.X ρ h g V W D.cV D.c []->A4 D ρ V W->Kp D.U W/\Off D.U ρ->W.heap[D.c]?=J (.chan n #[] Y s q tm)->LSs P.alt D.T D.h0 D.V0 h V->gs[0]?=J g->Lv P (λ_=>False) t gs qs->Past iy W.heap.size t->Fin P Post gs W sl t
section
variable {D} {Post:Wx->Wj->Prop}
theorem wW.pre(a:wW P D Post){h:Wk}{V:Wj}(u:Dem P.alt D.Ns D.Ts h V):∀n b d s q e,V.heap[D.cs]?=J (.chan n b d s q e)->d=Z/\b.toList <+:D.L:=by
 induction u with
 |stop m=>
  intro n b d s q e hr;obtain⟨h1,c⟩:=a.ts _ _ m n b d s q e hr;exact⟨h1,c▸List.prefix_refl _⟩
 | @step g w y m i _ ih=>
  intro n b d s q e hr;have⟨h',V',l⟩:=i w.tape w.drawn;obtain⟨o,r,j,p,x,k,h1,c⟩:=a.grow g w _ _ h' V' y l n b d s q e hr;obtain⟨f,v⟩:=ih _ _ h' V' l o r j p x k h1;rcases c with⟨c,t⟩|c
  rotate_left
  .rw [c]at f;cases f
  refine⟨?_,c.trans v⟩;cases d with
  |false=>rfl
  |true=>rw[t rfl]at f;cases f
end
end
section
open Go.Conc (crowd Past EvL Deaf QuitsD woken awake crowd_pick runT_crowd_go rcase scase parked ph)
section
variable {P:Wv} {gs:Array Wk} {w w₁:Wj} {sl:Option (Nat×Nat)} {i j:Nat} {g g₂ gj:Wk} {es:Array Event} {shape shj:CommShape} {blocking:Bool}
 {c cap s r:Nat} {buf:Array Wx} {closed tm:Bool} {v z zj:Wx}
theorem oj(o:gs[i]?=J g)(h:stepG P (i==0) g w=.comm g₂ #[rcase c z] blocking shape w₁ es)(n:w₁.heap[c]?=J (.chan cap buf closed s r tm))(a:0<buf.size)
  (e:j≠i) (m:gs[j]?=J (parked gj #[scase c v zj] shj)) (l:partners (gs.setIfInBounds i ph) c Y=[(j,0)]):
  runT P (crowd gs w sl) i=(.next (crowd ((gs.setIfInBounds j (gj.finishComm P #[scase c v zj] shj 0 Wo Z)).setIfInBounds i (g₂.finishComm P #[rcase c z] shape 0 (buf.getD 0 Wo) Y)) (w₁.setChan c cap ((buf.extract 1 buf.size).push v) closed (s+1) (r+1) tm) sl),
   MemOp.ofEvents i g.frame.fn g.frame.place es++#[{g:=i,fn:=g₂.frame.fn,pos:=g₂.frame.place,act:=.recv c r cap},{g:=i,fn:=g₂.frame.fn,pos:=g₂.frame.place,act:=.recvDone c r},
    {g:=j,fn:=gj.frame.fn,pos:=gj.frame.place,act:=.send c s},{g:=j,fn:=gj.frame.fn,pos:=gj.frame.place,act:=.sendDone c s}]):=by
 rw[Conc.runT_crowd_comm o h];have b:=Conc.stand_get (i:=i) e m;have f:=Conc.finishPartner_at P (gs.setIfInBounds i ph) b (cs:=#[scase c v zj]) (sh:=shj) rfl 0 Wo;have d:(gs.setIfInBounds i ph).getD j default=parked gj #[scase c v zj] shj:=by rw[gD,b];rfl
 have k:offeredValue (gs.setIfInBounds i ph) j 0=v:=by simp[offeredValue,b,parked,scase]
 simp[communicate,ways,rcase,n,l,a,choose,Sem.run,Question.forced,bind,Sem.bind,pure,World.setChan,crowd,f,d,k,Conc.set_stand2,scase,parked];rfl
end
def kx(P : Wv) : List PanicEntry := [{ v := .iface P.rt.plainError (strVal "send on closed channel"), recovered := Z }]
theorem ol{P:Wv}{gs:Array Wk}{w w₁:Wj}{sl:Option (Nat×Nat)}{i:Nat}{g g₂:Wk}{es:Array Event}{shape:CommShape}{blocking:Bool}{c s r:Nat}{buf:Array Wx}{tm:Bool}{v z:Wx}(d:gs[i]?=J g)(h:stepG P (i==0) g w=.comm g₂ #[scase c v z] blocking shape w₁ es)(b:w₁.heap[c]?=J (.chan m buf Y s r tm)):
  runT P (crowd gs w sl) i=(.next (crowd (gs.setIfInBounds i {g₂ with frame:=g₂.frame.raise (kx P)}) w₁ sl),MemOp.ofEvents i g.frame.fn g.frame.place es):=by
 rw[Conc.runT_crowd_comm d h];simp[communicate,ways,scase,b,choose,Sem.run,Question.forced,bind,Sem.bind,pure,runtimePanic,goPanic,program,crowd,kx]
variable {P:Wv} [Two P]
structure Moved (ρ ρ' ρr ρr':Ren)(W W1:Wj)(c:Nat)(es:Array Event):Prop where
 le:ρ.le ρ'
 ler:ρr.le ρr'
 new:∀a b,ρ' a b->ρ a b\/W.heap.size<=b
 newr:∀a b,ρr' a b->ρr a b\/W.heap.size<=b
 keep:Keep ρr W W1
 row:W1.heap[c]?=W.heap[c]?
 ev:∀e∈es,jg ρr' e
structure oV (D:PhD P)(ρ ρr:Ren)(W:Wj)(h hr g:Wk)(V Vr:Wj)(L:List Wx):Prop where
 side:Side P D.X ρ h g V W D.cV D.c L
 sideR:Side P ([trap P.alt],D.X.2) ρr hr g Vr W D.cr D.c L
 only:∀ (a:Nat) o,Vr.heap[a]?=J o->o.isChan=Y->a=D.cr
 chR:∀x,ρr.ch x->x=D.cr
 unmk:(∀f,¬Mk ρr.F f=Y)/\ρr.F=D.Fr
 base:(∀a b,D.R0 a b->ρ a b)/\ρ.F=D.Fp
 all:∀a b o,ρ a b->V.heap[a]?=J o->o.isChan=Y->ρ.ch a
 rest:∀a b,ρ.ch a->ρ a b->a≠D.cV->∃n s q tm n' s' q',V.heap[a]?=J (.chan n #[] Y s q tm)/\W.heap[b]?=J (.chan n' #[] Y s' q' tm)
structure Hy (D:PhD P)(ρ ρr:Ren)(W:Wj)(h1 hr1 g1:Wk)(V1 Vr1:Wj)(L:List Wx)(z:Wx)(s:CommShape)(h hr:Wk)(V Vr:Wj):Prop where
 at1:oV D ρ ρr W h1 hr1 g1 V1 Vr1 L
 sh:∃ok,s=.recv ok
 atc:AtC P g1 (rcase D.c z) s
 rc:∃cc,RC ρ cc (rcase D.c z)/\LC P.alt h1 cc s V1 h V
 rcr:∃cc,RC ρr cc (rcase D.c z)/\LC P.alt hr1 cc s Vr1 hr Vr
section
variable {D:PhD P} {Post:Wx->Wj->Prop} {ρ ρr:Ren} {W:Wj} {h hr g:Wk} {V Vr:Wj} {L:List Wx}
omit [Two P]in
theorem LC.only{g g':Wk}{cc:CommCase}{s:CommShape}{V V':Wj}(h:LC P g cc s V g' V'){l:Nat}(c:∀ (a:Nat) o,V.heap[a]?=J o->o.isChan=Y->a=l):∀ (a:Nat) o,V'.heap[a]?=J o->o.isChan=Y->a=l:=by
 intro a o b i;cases h with
 |shut=>exact c a o b i
 |dead=>exact c a o b i
 | @send r j f d buf m v h1 n k p=>
  by_cases e:r=a
  .subst e;exact c _ _ k rfl
  .exact c a o (by simpa[e]using b) i
 | @recv r j f d buf cl m h1 n k p=>
  by_cases e:r=a
  .subst e;exact c _ _ k rfl
  .exact c a o (by simpa[e]using b) i
theorem wX (i:wW P D Post)(R:oV D ρ ρr W h hr g V Vr L)(bp:NB [trap P.alt] hr)(d:Nat){h' ad:Wk}{V':Wj}(hl:LS P.alt h (V.on W.tape d) h' V')(a1:LS P.alt hr (Vr.on W.tape d) ad w2):
    ∃g1 W1 es ρ' ρr',Moved ρ ρ' ρr ρr' W W1 D.c es /\
      ((stepG P Y g (W.at d)=.go g1 W1 es/\oV D ρ' ρr' W1 h' ad g1 V' w2 L) \/
       (∃h1 al V1 Vr1 z s,stepG P Y g (W.at d)=.comm g1 #[rcase D.c z] Y s W1 es/\Hy D ρ' ρr' W1 h1 al g1 V1 Vr1 L z s h' ad V' w2)):=by
  have S:=R.side;have Sr:=R.sideR;have a6:Base ([trap P.alt],D.X.2) hr.frame g.callers:=λe=>bp (Sr.go.callers.tail e)
  have hb:Base D.X h.frame g.callers:=λe=>by
    rcases a6 e with k|k
    . have r:=Sr.go.frame.mode
      have m2:=S.go.frame.mode;rw[k]at r;cases hm:g.frame.mode<;>rw[hm]at r<;>cases r
      rw[hm]at m2
      left
      generalize h.frame.mode=x at m2;cases m2;rfl
    . right
      have r:=Sr.go.frame.defers;have m2:=S.go.frame.defers;intro hn;rw[hn]at m2;generalize g.frame.defers=x at r m2;cases m2;generalize hr.frame.defers=y at r k;cases r;exact k rfl
  obtain⟨-,sr⟩:=nu i.zero i.count Y Sr.go a6 Sr.sim Sr.gid Sr.ext R.unmk.1 d rfl a1;obtain⟨-,G⟩:=oi i.zero i.count Y S.go hb S.sim S.gid S.ext d rfl hl (λf a' fr' cs' u' es' hM ar=>by
    have ar:stepG P Y g (W.at d)=_:=ar;rw[ar]at sr;obtain⟨-,fn,-,a2,-,bb,-⟩:=S.gid.apart f hM;have⟨b,a7⟩:=Option.isSome_iff_exists.1 bb;have bk:=i.mark f (by rw[<-R.base.2];exact hM) fn b a2 a7;generalize stepG P.alt Y hr (Vr.on W.tape d)=z at sr;cases sr with
    | @go hx _ _ _ _ _ ρ2 R2 t _=>
      have ht:=t.frame.todo;have e:(Frame.enter P f a' .normal).todo=[.code b]:=by simp[Frame.enter,a2,a7]
      simp only[e]at ht;generalize hx.frame.todo=td at ht;cases ht with
      |cons hi _=>
        cases hi with
        |code h=>
          rw[R2.le.F,R.unmk.2,bk]at h;cases h)
  have B:∀ {ρ':Ren},ρ.le ρ'->(ρ'.F gq=Z/\ρ'.F mz=Z)/\(ρ'.loose=Y/\ρ'.wide=Y)/\ρ'.ch D.cV:=λl=>⟨by rw[l.F];exact S.calm,by rw[l.loose,l.wide];exact S.loose,by rw[l.ch];exact S.ch⟩
  have A:∀ {ρ':Ren},ρr.le ρ'->(ρ'.F gq=Z/\ρ'.F mz=Z)/\(ρ'.loose=Y/\ρ'.wide=Y)/\ρ'.ch D.cr:=λl=>⟨by rw[l.F];exact Sr.calm,by rw[l.loose,l.wide];exact Sr.loose,by rw[l.ch];exact Sr.ch⟩
  have ab:∀ {ρ':Ren} {u u':Wj},Reach ρ ρ' (V.on W.tape d) (W.at d) u u'->∃n b s q m,u.heap[D.cV]?=J (.chan n b Y s q m)/\b.toList=L:=λR=>by
    have⟨n,b,s,q,m,h1,h2⟩:=S.row;rcases R.chs.row D.cV D.c S.ch S.pair with⟨k,-⟩|⟨k,-⟩
    . exact⟨n,b,s,q,m,k.trans h1,h2⟩
    . rw[S.calm.1]at k;cases k
  have j:∀ {ρ':Ren} {u u':Wj},Reach ρ ρ' (V.on W.tape d) (W.at d) u u'->(∀a b o,ρ' a b->u.heap[a]?=J o->o.isChan=Y->ρ'.ch a)/\∀a b,ρ'.ch a->ρ' a b->a≠D.cV->∃n s q m n' s' q',u.heap[a]?=J (.chan n #[] Y s q m)/\u'.heap[b]?=J (.chan n' #[] Y s' q' m):=λR1=>by
    refine⟨λa b o ap ho hc=>?_,λa b Q ap bd=>?_⟩
    . rw[R1.le.ch]
      rcases R1.chs.only S.calm.2 a o ho hc with k|⟨k,-⟩
      . rcases R1.new a b ap with k2|⟨k2,-⟩
        . exact R.all a b o k2 k hc
        . have:a<V.heap.size:=(eS k).1
          exact absurd k2 (by show¬V.heap.size<=a;omega)
      . rw[S.calm.1]at k;cases k
    . rw[R1.le.ch]at Q
      rcases R1.new a b ap with k2|⟨k2,-⟩
      . have⟨n,s,q,m,n',s',q',e1,e2⟩:=R.rest a b Q k2 bd
        rcases R1.chs.row a b Q k2 with⟨k,k3⟩|⟨k,-⟩
        . exact⟨n,s,q,m,n',s',q',k.trans e1,k3.trans e2⟩
        . rw[S.calm.1]at k;cases k
      . obtain⟨o,e1,-⟩:=S.sim.chan a Q
        have:a<V.heap.size:=(eS e1).1;exact absurd k2 (by show¬V.heap.size<=a;omega)
  have ac:∀ {ρ':Ren} {u u':Wj},Reach ρr ρ' (Vr.on W.tape d) (W.at d) u u'->(∃n b s q m,u.heap[D.cr]?=J (.chan n b Y s q m)/\b.toList=L)/\u'.heap[D.c]?=W.heap[D.c]?/\∀ (a:Nat) o,u.heap[a]?=J o->o.isChan=Y->a=D.cr:=λR1=>by
    have⟨n,b,s,q,m,h1,h2⟩:=Sr.row;refine⟨?_,?_,λa o ho hc=>?_⟩
    . rcases R1.chs.row D.cr D.c Sr.ch Sr.pair with⟨k,-⟩|⟨k,-⟩
      . exact⟨n,b,s,q,m,k.trans h1,h2⟩
      . rw[Sr.calm.1]at k;cases k
    . rcases R1.chs.row D.cr D.c Sr.ch Sr.pair with⟨-,k⟩|⟨k,-⟩
      . exact k
      . rw[Sr.calm.1]at k;cases k
    . rcases R1.chs.only Sr.calm.2 a o ho hc with k|⟨k,-⟩
      . exact R.only a o k hc
      . rw[Sr.calm.1]at k;cases k
  cases a1 with
  | @go _ _ bi er hr2 hd2=>
    rw[er]at sr;generalize hy:stepG P Y g (W.at d)=y at sr G;cases sr with
    | @go _ g1 _ W1 _ es ρr' R1 av af=>
      cases hl with
      | @go _ _ be ev hrv hdv=>
        rw[ev]at G;cases G with
        |go _ ρ' R2 t bl=>
          have⟨k1,k3,k4⟩:=B R2.le;have⟨r,m3,m4⟩:=A R1.le;have⟨r1,r2,r3⟩:=ac R1;exact⟨g1,W1,es,ρ',ρr',⟨R2.le,R1.le,λa b h=>(R2.new a b h).imp id (·.2),λa b h=>(R1.new a b h).imp id (·.2),⟨R1.keep.os,R1.keep.output,R1.keep.tape,R1.keep.size,R1.keep.block⟩,r2,af⟩,.inl ⟨rfl,
            ⟨⟨t,R2.sim,S.gid.mono R2.le,by rw[R2.le.F];exact S.ext,k1,k3,k4,R2.le _ _ S.pair,ab R2⟩,⟨av,R1.sim,Sr.gid.mono R1.le,by rw[R1.le.F];exact Sr.ext,r,m3,m4,R1.le _ _ Sr.pair,r1⟩,r3,(by rw[R1.le.ch];exact R.chR),(by rw[R1.le.F];exact R.unmk),⟨λa b k=>R2.le _ _ (R.base.1 a b k),R2.le.F.trans R.base.2⟩,(j R2).1,(j R2).2⟩⟩⟩
      |comm ev _=>
        rw[ev]at G;cases G
  | @comm al H s Vr1 bi _ _ er a8=>
    rw[er]at sr;generalize hy:stepG P Y g (W.at d)=y at sr G;cases sr with
    | @comm _ g1 _ c' hC _ bn hrun _ W1 _ es ρr' R1 av p af a9=>
      cases hl with
      |go ev _ _=>rw[ev]at G;cases G
      | @comm h1 cc sv' V1 be _ _ ev bo=>
        rw[ev]at G;cases G with
        |comm hC2 _ hsh2 hrun2 _ ρ' R2 t a5 bl ha2=>
          have⟨k1,k3,k4⟩:=B R2.le;have⟨r,m3,m4⟩:=A R1.le;have⟨r1,r2,r3⟩:=ac R1;have T:H.send=none:=by
            cases hx:H.send with
            |none=>rfl
            |some v=>have:=hC.1 (by rw[hx];rfl);rw[Sr.calm.1]at this;cases this
          have a3:c'.send=none:=by
            rcases p.send with⟨-,k⟩|⟨v,_,k,-⟩
            . exact k
            . rw[T]at k;cases k
          have a0:H.chan=.chan (J D.cr):=by
            cases a8 with
            |send q1 q2 q3 q4=>rw[T]at q2;cases q2
            |dead q1 q2 q3=>rw[T]at q2;cases q2
            |recv q1 q2 q3 q4=>rw[q1,r3 _ _ q3 rfl]
            |shut q1 q2 q3=>rw[q1,r3 _ _ q3 rfl]
          have aa:c'=rcase D.c c'.zero:=by
            refine wV ?_ a3;have:=p.chan;rw[a0]at this;generalize c'.chan=x at this;cases this with
            |chan k=>cases k with
              |some k=>rw[ρr'.fn _ _ _ k (R1.le _ _ Sr.pair)]
          have a4:∃ok,s=.recv ok:=by
            rcases bn with⟨k,-⟩|⟨-,k⟩
            . rw[T]at k;cases k
            . exact k
          refine⟨g1,W1,es,ρ',ρr',⟨R2.le,R1.le,λa b h=>(R2.new a b h).imp id (·.2),λa b h=>(R1.new a b h).imp id (·.2),⟨R1.keep.os,R1.keep.output,R1.keep.tape,R1.keep.size,R1.keep.block⟩,r2,af⟩,.inr ⟨h1,al,V1,Vr1,c'.zero,s,by rw[<-aa],
            ⟨⟨⟨t,R2.sim,S.gid.mono R2.le,by rw[R2.le.F];exact S.ext,k1,k3,k4,R2.le _ _ S.pair,ab R2⟩,⟨av,R1.sim,Sr.gid.mono R1.le,by rw[R1.le.F];exact Sr.ext,r,m3,m4,R1.le _ _ Sr.pair,r1⟩,r3,(by rw[R1.le.ch];exact R.chR),(by rw[R1.le.F];exact R.unmk),⟨λa b k=>R2.le _ _ (R.base.1 a b k),R2.le.F.trans R.base.2⟩,(j R2).1,(j R2).2⟩,a4,by rw[<-aa];exact a9.2.2,⟨cc,by rw[<-aa];exact a5,bo⟩,⟨H,by rw[<-aa];exact p,a8⟩⟩⟩⟩
structure ky (ρs ρs':Ren)(W W1:Wj)(c:Nat)(es:Array Event):Prop where
 le:ρs.le ρs'
 new:∀a b,ρs' a b->ρs a b\/W.heap.size<=b
 keep:Keep ρs W W1
 row:W1.heap[c]?=W.heap[c]?
 ev:∀e∈es,jg ρs' e
theorem DP (i:wW P D Post){ρs:Ren}{hs s:Wk}{Vs:Wj}(S:Snd P ([trap P.alt],D.Bs) ρs hs s Vs W D.cs D.c L)(a2:NB [trap P.alt] hs)(d:Nat){t:Wk}(hl:LS P.alt hs (Vs.on W.tape d) t w2)(aa:∀n b cl s q j,w2.heap[D.cs]?=some (.chan n b cl s q j)->cl=false):
    ∃s1 W1 es ρs',ky ρs ρs' W W1 D.c es /\
      ((stepG P Z s (W.at d)=.go s1 W1 es/\Snd P ([trap P.alt],D.Bs) ρs' t s1 w2 W1 D.cs D.c L) \/
       (∃h1 V1 cc v z,stepG P Z s (W.at d)=.comm s1 #[scase D.c v z] Y .send W1 es/\Snd P ([trap P.alt],D.Bs) ρs' h1 s1 V1 W1 D.cs D.c L/\RC ρs' cc (scase D.c v z)/\LC P.alt h1 cc .send V1 t w2) \/
       (∃r v z n b s' q j,stepG P Z s (W.at d)=.comm s1 #[scase r v z] Y .send W1 es/\W1.heap[r]?=J (.chan n b Y s' q j)/\Snd P ([trap P.alt],D.Bs) ρs' t {s1 with frame:=s1.frame.raise (kx P)} w2 W1 D.cs D.c L)):=by
  have hb:Base ([trap P.alt],D.Bs) hs.frame s.callers:=λe=>a2 (S.go.callers.tail e)
  have ar:hs.callers≠[]:=λe=>by
    have:=S.go.callers.len1;rw[e]at this;simp at this
  obtain⟨-,sr⟩:=nu i.zero i.count Z S.go hb S.sim S.gid S.ext S.unmk d (yL _ _ ar _).symm hl;have H:∀ {ρ':Ren},ρs.le ρ'->(ρ'.F Hx=Z/\ρ'.F mz=Z)/\(∀f,¬Mk ρ'.F f=Y)/\(ρ'.loose=Y/\ρ'.wide=Z)/\∀x,ρ'.ch x↔x=D.cs:=λl=>⟨by rw[l.F];exact S.calm,by rw[l.F];exact S.unmk,by rw[l.loose,l.wide];exact S.loose,by rw[l.ch];exact S.ch⟩
  have X:∀ {ρ':Ren} {u u':Wj},Reach ρs ρ' (Vs.on W.tape d) (W.at d) u u'->(∀n b s q j,u.heap[D.cs]?=J (.chan n b Y s q j)->False)->(∃n b s q j,u.heap[D.cs]?=J (.chan n b Z s q j)/\b.toList=L)/\u'.heap[D.c]?=W.heap[D.c]?/\∀ (a n:Nat) b s q j,u.heap[a]?=J (.chan n b Z s q j)->a=D.cs:=λR1 R=>by
    have⟨n,b,s,q,j,h1,h2⟩:=S.row;have af:=R1.chs.row D.cs D.c ((S.ch _).2 rfl) S.pair;refine⟨?_,?_,λa n b s q j ho=>?_⟩
    . rcases af with⟨k,-⟩|⟨-,_,_,_,_,_,k⟩
      . exact⟨n,b,s,q,j,k.trans h1,h2⟩
      . exact(R _ _ _ _ _ k).elim
    . rcases af with⟨-,k⟩|⟨-,_,_,_,_,_,k⟩
      . exact k
      . exact(R _ _ _ _ _ k).elim
    . rcases R1.chs.only S.calm.2 a _ ho rfl with k|⟨-,_,_,_,_,_,k⟩
      . exact S.only a n b s q j k
      . rw[ho]at k;cases k
  cases hl with
  | @go _ _ a0 er hr2 hd2=>
    rw[er]at sr;generalize hy:stepG P Z s (W.at d)=y at sr;cases sr with
    | @go _ g1 _ W1 _ es ρ' R1 m ab=>
      have⟨m1,m2,m3,m4⟩:=H R1.le;obtain⟨r1,r2,r3⟩:=X R1 (λn b s q j k=>by cases aa _ _ _ _ _ _ k);exact⟨g1,W1,es,ρ',⟨R1.le,λa b h=>(R1.new a b h).imp id (·.2),⟨R1.keep.os,R1.keep.output,R1.keep.tape,R1.keep.size,R1.keep.block⟩,r2,ab⟩,.inl ⟨rfl,⟨m,R1.sim,S.gid.mono R1.le,by rw[R1.le.F];exact S.ext,m1,m2,m3,m4,R1.le _ _ S.pair,r1,r3⟩⟩⟩
  | @comm h1 cc sh V1 a0 _ _ er ac=>
    rw[er]at sr;generalize hy:stepG P Z s (W.at d)=y at sr;cases sr with
    | @comm _ g1 _ B hC _ a1 hrun _ W1 _ es ρ' R1 m p ab ha1=>
      have⟨m1,m2,m3,m4⟩:=H R1.le;have A:cc.send≠none:=λk=>by have:=hC.2 k;rw[S.calm.1]at this;cases this
      have R:∀n b s q j,V1.heap[D.cs]?=J (.chan n b Y s q j)->False:=λn b s q j k=>by
        cases ac with
        |recv V Q G q4=>exact A Q
        |shut V Q G=>exact A Q
        |dead V Q G=>cases aa _ _ _ _ _ _ k
        | @send r cap sent rcvd buf tm0 v0 V Q G q4=>
          by_cases e:r=D.cs
          . subst e;rw[k]at G;cases G
          . cases aa n b Y s q j (by simpa[e]using k)
      have⟨r1,r2,r3⟩:=X R1 R;have ad:sh=.send:=by
        rcases a1 with⟨-,k⟩|⟨k,-⟩
        . exact k
        . exact absurd k A
      subst ad;obtain⟨v,hv⟩:∃v,B.send=J v:=by
        rcases p.send with⟨k,-⟩|⟨_,v,-,k,-⟩
        . exact absurd k A
        . exact⟨v,k⟩
      have mv:ky ρs ρ' W W1 D.c es:=⟨R1.le,λa b h=>(R1.new a b h).imp id (·.2),⟨R1.keep.os,R1.keep.output,R1.keep.tape,R1.keep.size,R1.keep.block⟩,r2,ab⟩;have av:(∃h' V',t=h'/\w2=V'/\cc.chan=.chan (J D.cs))\/(w2=V1/\t={h1 with frame:=h1.frame.raise (kx P)}/\∃r n b s q j,cc.chan=.chan (J r)/\V1.heap[r]?=J (.chan n b Y s q j)):=by
        cases ac with
        |recv V Q G q4=>exact absurd Q A
        |shut V Q G=>exact absurd Q A
        |send V Q G q4=>exact .inl ⟨_,_,rfl,rfl,by rw[V,r3 _ _ _ _ _ _ G]⟩
        |dead V Q G=>exact .inr ⟨rfl,rfl,_,_,_,_,_,_,V,G⟩
      rcases av with⟨_,_,-,-,o⟩|⟨rfl,rfl,r,n,b,s',q,j,o,al⟩
      rotate_left
      . obtain⟨r',cap',buf',cl',s'',q'',c1,c2,c3,-,c5,-⟩:=qJ R1.sim p o al
        obtain rfl:=c5.resolve_left (by rw[m3.2];exactλh=>by cases h);have T:B=scase r' v B.zero:=by
          obtain⟨a,b,z⟩:=B;simp only at c1 hv;subst c1;subst hv;rfl
        refine⟨g1,W1,es,ρ',mv,.inr (.inr ⟨r',v,B.zero,_,_,_,_,_,by rw[<-T],c3,⟨⟨m.frame.raise1 (.iface _ (.string _)),m.callers,m.kind.raise _ _,m.status,m.dying,m.offers⟩,R1.sim,S.gid.mono R1.le,by rw[R1.le.F];exact S.ext,m1,m2,m3,m4,R1.le _ _ S.pair,r1,r3⟩⟩)⟩
      have T:B=scase D.c v B.zero:=by
        have ap:B.chan=.chan (J D.c):=by
          have:=p.chan;rw[o]at this;generalize B.chan=x at this;cases this with
          |chan k=>cases k with
            |some k=>rw[ρ'.fn _ _ _ k (R1.le _ _ S.pair)]
        obtain⟨a,b,z⟩:=B;simp only at ap hv;subst ap;subst hv;rfl
      exact⟨g1,W1,es,ρ',mv,.inr (.inl ⟨h1,V1,cc,v,B.zero,by rw[<-T],⟨m,R1.sim,S.gid.mono R1.le,by rw[R1.le.F];exact S.ext,m1,m2,m3,m4,R1.le _ _ S.pair,r1,r3⟩,by rw[<-T];exact p,ac⟩)⟩
end
end
section
open Go.Conc (crowd Past EvL Deaf QuitsD woken awake crowd_pick runT_crowd_go rcase scase parked ph)
open Go.ConcN (sumTo upd sumTo_upd upd_ne upd_same)
variable {P:Wv} [Two P] {D:PhD P} {Post:Wx->Wj->Prop}
theorem Moved.far{ρ ρ' ρr ρr' ρs:Ren}{W W1:Wj}{c:Nat}{es:Array Event}(m:Moved ρ ρ' ρr ρr' W W1 c es)(hF:Far ρr ρs)(d:∀y b,ρs y b->b<W.heap.size):Far ρr' ρs:=λb x y h1 a=>by
 rcases m.newr x b h1 with k|k
 .rw [m.ler.old,m.ler.ch];exact hF b x y k a
 .have:=d y b a;omega
theorem oV.at{ρ ρr:Ren}{W:Wj}{h hr g:Wk}{V Vr:Wj}{L:List Wx}(R:oV D ρ ρr W h hr g V Vr L)(d:Nat):oV D ρ ρr (W.at d) h hr g V Vr L:=⟨R.side.stays rfl (λ_ _ _ _=>rfl) rfl,R.sideR.stays rfl (λ_ _ _ _=>rfl) rfl,R.only,R.chR,R.unmk,R.base,R.all,R.rest⟩
omit [Two P]in
theorem iM{gs:Array Wk}{t:Trace}{q:Nat->Nat}(d:Lv P (λ_=>False) t gs q){x:Wk}(c:gs[0]?=J x)(hr:x.status=.running):∀y∈gs,awake y:=λy e=>by
 obtain⟨i,b,rfl⟩:=Array.mem_iff_getElem.1 e;rcases Nat.eq_zero_or_pos i with rfl|a
 .have:gs[0]=x:=by simpa[eG b]using c
  rw[this];exact Conc.awake_of (.inl hr)
 .exact Conc.awake_of ((d.old i _ a (λk=>k) (eG b)).status.elim .inl λx=>.inr (.inr x))
theorem firm0{gs:Array Wk}{x:Wk}(c:gs[0]?=J x)(hr:x.status=.running)(w:Wj):∀j o,(j=0\/False)->gs[j]?=J o->o.again w=o:=λj o a b=>by
 rcases a with rfl|a
 .rw [c]at b;cases b;exact Conc.again_running _ (.inl hr)
 .exact a.elim
theorem oV.run{ρ ρr:Ren}{W:Wj}{h hr g:Wk}{V Vr:Wj}{L:List Wx}(R:oV D ρ ρr W h hr g V Vr L):g.status=.running:=R.side.go.status.2
theorem sD(a:wW P D Post){ρ ρr:Ren}{W:Wj}{h hr g:Wk}{V Vr:Wj}{L:List Wx}(R:oV D ρ ρr W h hr g V Vr L)(f:Dem P.alt (λg _=>NB [trap P.alt] g) D.T h V)(i:LSs P.alt D.T D.h0 D.V0 h V)(d:Nat):
  ∃h' V',LS P.alt h (V.on W.tape d) h' V'/\Dem P.alt (λg _=>NB [trap P.alt] g) D.T h' V'/\LSs P.alt D.T D.h0 D.V0 h' V':=by
 have e:¬D.T h V:=λk=>by
  have h1:=a.leafT _ _ k;have h2:=R.side.go.callers.len1;have h3:=a.deep;omega
 cases f with
 |stop k=>exact absurd k e
 |step _ _ c j=>
  have⟨h',V',b⟩:=c W.tape d;exact⟨h',V',b,j _ _ _ _ b,i.trans (.step e _ _ b (.refl _ _))⟩
theorem Hy.take(f:wW P D Post){ρ ρr:Ren}{W W':Wj}{h1 S g1 h hr:Wk}{V1 V Vr:Wj}{v z:Wx}{L:List Wx}{sh:CommShape}(d:Hy D ρ ρr W h1 S g1 V1 w2 (v::L) z sh h hr V Vr)(hv:v∈D.L)(B:W'.os=W.os)(hs:∀b,b≠D.c->W'.heap[b]?=W.heap[b]?){n:Nat}{b b':List Wx}{T:Bool}{s q X:Nat}{F:Bool}(r1:kZ W D.c n b cl s q F)(r2:kZ W' D.c q' b' T n' X F):
  oV D ρ ρr W' h hr (g1.finishComm P #[rcase D.c z] sh 0 v Y) V Vr L:=by
 have⟨cc,c1,H⟩:=d.rc;have⟨cr,d1,d2⟩:=d.rcr;have p:∀ (a:Nat) (o:Obj),V.heap[a]?=J o->o.isChan=Y->∃G:Obj,V1.heap[a]?=J G/\G.isChan=true:=λa o u x=>by
  cases H with
  |shut=>exact⟨o,u,x⟩
  |dead=>exact⟨o,u,x⟩
  | @send r _ _ _ _ _ _ l y A k4=>
   by_cases e:r=a
   .subst e;exact⟨_,A,rfl⟩
   .exact ⟨o,by simpa[e]using u,x⟩
  | @recv r _ _ _ _ _ _ l y A k4=>
   by_cases e:r=a
   .subst e;exact⟨_,A,rfl⟩
   .exact ⟨o,by simpa[e]using u,x⟩
 have t:∀a:Nat,a≠D.cV->V.heap[a]?=V1.heap[a]?:=λa ha=>by
  obtain⟨-,i⟩:=d.at1.side.case_ c1;have hr:∀r,cc.chan=.chan (J r)->r≠a:=λr e=>by
   rw[e]at i;rcases i with k|k
   .cases k;exact Ne.symm ha
   .cases k
  cases H with
  |shut=>rfl
  |dead=>rfl
  |send l y A k4=>simp[hr _ l]
  |recv l y A k4=>simp[hr _ l]
 refine⟨d.at1.side.take c1 d.sh H (f.flat v hv) B hs r1 r2,d.at1.sideR.take d1 d.sh d2 (f.flat v hv) B hs r1 r2,d2.only d.at1.only,d.at1.chR,d.at1.unmk,d.at1.base,λa b o j u x=>?_,λa b i j m=>?_⟩
 .have ⟨G,l,y⟩:=p a o u x;exact d.at1.all a b G j l y
 .have ⟨n,s,q,F,q',n',X,e1,e2⟩:=d.at1.rest a b i j m;refine⟨n,s,q,F,q',n',X,(t a m).trans e1,?_⟩;rw[hs b (λe=>m (ρ.inj _ _ _ j (e▸d.at1.side.pair)))];exact e2
theorem aP(W:Wj)(c n:Nat)(b:Array Wx)(a:Bool)(s q:Nat)(d:Bool){j:Nat}(h:j≠c):(W.setChan c n b a s q d).heap[j]?=W.heap[j]?:=by
 unfold World.setChan;exact sN (Ne.symm h)
theorem dW(W:Wj)(c n:Nat)(b:Array Wx)(a:Bool)(s q:Nat)(tm:Bool)(h:c<W.heap.size):kZ (W.setChan c n b a s q tm) c n b.toList a s q tm:=⟨b,by unfold World.setChan;exact sS h,rfl⟩
theorem cI(W:Wj)(c n:Nat)(b:Array Wx)(a:Bool)(s q:Nat)(d:Bool):(W.setChan c n b a s q d).heap.size=W.heap.size:=by simp[World.setChan]
theorem iN(g:Nat)(fn:FuncId)(a:String):MemOp.ofEvents g fn a #[]=#[]:=rfl
theorem wY{ρ ρr:Ren}{W:Wj}{h1 k g1 h:Wk}{V1 V:Wj}{z:Wx}{sh:CommShape}{cc:CommCase}(R:oV D ρ ρr W h1 k g1 V1 w2 [])(i:RC ρ cc (rcase D.c z))(_hsh:∃o,sh=.recv o)(b:LC P.alt h1 cc sh V1 h V):A4 D ρ V W:=by
 have p:V=V1:=by
  have⟨f,a⟩:=R.side.case_ i;have⟨n0,n,s0,q0,tm0,m,q⟩:=R.side.row;cases b with
  |send l d e j=>rw[f]at d;cases d
  |dead=>rfl
  |shut=>rfl
  |recv l d e j=>
   rw[l]at a;rcases a with a|a
   .cases a;rw[m]at e;cases e;have:n=#[]:=Array.toList_inj.1 (by simpa using q);rw[this]at j;simp at j
   .cases a
 rw[p];exact⟨R.base,R.all,R.rest⟩
structure yM (D:PhD P)(ρ ρr:Ren)(W:Wj):Prop where
 kp:Kp D.U W
 off:Off D.U ρ
 offR:Off D.U ρr
 chan:¬D.U.Ko D.c
omit [Two P]in
theorem yM.rcv{D:PhD P}{ρ ρr ρ' ρr':Ren}{W W1:Wj}{es:Array Event}(h:yM D ρ ρr W)(m:Moved ρ ρ' ρr ρr' W W1 D.c es):yM D ρ' ρr' W1:=⟨h.kp.keep h.offR m.keep,h.off.new h.kp m.le.sub m.new ⟨m.le.pin,m.le.bad⟩,h.offR.new h.kp m.ler.sub m.newr ⟨m.ler.pin,m.ler.bad⟩,h.chan⟩
omit [Two P]in
theorem Kp.setChan{a:Outer}{W:Wj}{c:Nat}(h:Kp a W)(f:¬a.Ko c)(n:Nat)(b:Array Wx)(i:Bool)(s q:Nat)(k:Bool):Kp a (W.setChan c n b i s q k):=⟨by rw[cI];exact h.1,h.2.1,λx d=>(aP (j:=x) _ _ _ _ _ _ _ _ (λe=>f (by rw[<-e];exact d))).trans (h.2.2 x d)⟩
omit [Two P]in
theorem yM.set{D:PhD P}{ρ ρr:Ren}{W:Wj}(h:yM D ρ ρr W)(n:Nat)(b:Array Wx)(a:Bool)(s q:Nat)(d:Bool):yM D ρ ρr (W.setChan D.c n b a s q d):=⟨h.kp.setChan h.chan _ _ _ _ _ _,h.off,h.offR,h.chan⟩
theorem vv(f:wW P D Post){ρ ρr ρs:Ren}{h1 R g1 h hr:Wk}{V1 V Vr:Wj}{z:Wx}{sh:CommShape}(hp:LSs P.alt D.T D.h0 D.V0 h V){n s q:Nat}{tm:Bool}{pc:Nat}:
  ∀ (e:Nat) (gs:Array Wk) (W:Wj) (sl:Option (Nat×Nat)) (t:Trace) (G:Nat->Nat),sumTo gs.size G<=e->Hy D ρ ρr W h1 R g1 V1 w2 [] z sh h hr V Vr->kZ W D.c n [] Y s q tm->yM D ρ ρr W->gs[0]?=J {parked g1 #[rcase D.c z] sh with status:=.running}->Lv P (λ_=>False) t gs G->PhC D.c pc ρs W.heap.size t->Fin P Post gs W sl t:=by
 intro e;induction e using Nat.strongRecOn with
 |_ e ih=>
  intro gs W sl t G hM b r o m H hP;have⟨i,x,d,F,u,hx,y⟩:=crowd_pick (P:=P) (w:=W) (sl:=sl) (iM H m rfl) ⟨0,_,m,rfl⟩;rcases Nat.eq_zero_or_pos i with rfl|B
  .rw [m]at u;cases u;have p:stepG P (0==0) {parked g1 #[rcase D.c z] sh with status:=.running} (W.at d)=.comm g1 #[rcase D.c z] Y sh (W.at d) #[]:=b.atc Y (W.at d);obtain⟨a,l,X⟩:=r;have X:a=#[]:=Array.toList_inj.1 (by simpa using X);subst X;have A:=Conc.crowd_recv_closed (sl:=F) (i:=0) m p l (H.alone D.c Y);rw[iN,Array.empty_append]at A;have L:D.c<W.heap.size:=(eS l).1;have⟨cc,c1,c2⟩:=b.rc;have S:=((b.at1.at d).side).nothing c1 b.sh c2;exact Fin.next (y.trans A) (f.fin ρ h _ V (W.at d) n s q tm _ _ _ G S (wY (b.at1.at d) c1 b.sh c2) ⟨o.kp,o.off⟩ l hp (by simp[(eS m).1])
    (H.put (λop v=>by simp at v;subst v;exact⟨by simp,by simp⟩) (by simp) (λj hj _=>sN (by omega)))
    (hP.done ⟨rfl,rfl⟩ L))
  .obtain ⟨aa,q',Q,e1,e2,e3,e4,e5,e6,-⟩:=slip H hP (λt i fn pos es u _ h hm=>h.mute u hm) u hx B (λk=>k) (firm0 m rfl _) y;exact Fin.next e1 (ih _ (by omega) aa (W.at d) F (t++Q) q' (lR _) ⟨b.at1.at d,b.sh,b.atc,b.rc,b.rcr⟩ r ⟨o.kp,o.off,o.offR,o.chan⟩ ((e3 0 (.inl rfl)).trans m) e4 e5)
def fw(P:Wv) [Two P](D:PhD P)(Post:Wx->Wj->Prop)(hr:Wk)(Vr:Wj):Prop:=
 ∀ (gs:Array Wk) (W:Wj) (sl:Option (Nat×Nat)) (t:Trace) (d:Nat->Nat) (ρ ρr ρs:Ren) (h g:Wk) (V:Wj) (L:List Wx) (n s q:Nat) (a:Bool) (pc:Nat),oV D ρ ρr W h hr g V Vr L->Dem P.alt (λg _=>NB [trap P.alt] g) D.T h V->LSs P.alt D.T D.h0 D.V0 h V->(∀v∈L,v∈D.L)->kZ W D.c n L Y s q a->Far ρr ρs->yM D ρ ρr W->(∀y b,ρs y b->b<W.heap.size)->gs[0]?=J g->Lv P (λ_=>False) t gs d->PhC D.c pc ρs W.heap.size t->Fin P Post gs W sl t
theorem pC(l:wW P D Post){hr:Wk}{Vr:Wj}(a4:NB [trap P.alt] hr)(a8:∀τ d,∃u Vr',LS P.alt hr (Vr.on τ d) u Vr')
  (hn:∀τ d u Vr',LS P.alt hr (Vr.on τ d) u Vr'->fw P D Post u Vr'\/((∀n b s q tm,Vr.heap[D.cr]?=J (.chan n b Y s q tm)->b.toList=[])/\∃h1 cc s V1 es,stepG P.alt Y hr (Vr.on τ d)=.comm h1 cc Y s V1 es)):fw P D Post hr Vr:=by
 intro gs W sl t qs ρ ρr ρs h g V L n s q tm pc R hd hp al r hF hU hB S hL hP;obtain⟨o,hM⟩:∃o,sumTo gs.size qs<=o:=⟨_,lR _⟩;induction o using Nat.strongRecOn generalizing gs W sl t qs with
 |_ o ih=>
  have⟨i,x,d,Q,hi,hx,aa⟩:=crowd_pick (P:=P) (w:=W) (sl:=sl) (iM hL S R.run) ⟨0,_,S,R.run⟩;rcases Nat.eq_zero_or_pos i with rfl|a0
  .obtain rfl:x=g:=by rw[S]at hi;exact(oJ hi).symm
   have⟨h',V',hl,a3,ap⟩:=sD l R hd hp d;have⟨u,Vr',av⟩:=a8 W.tape d;have a2:=hn _ _ _ _ av;have⟨g1,W1,es,ρ',ρr',m,ac⟩:=wX l R a4 d hl av;have A:=m.far hF hB;have F:W.heap.size<=W1.heap.size:=m.keep.size;have r1:kZ W1 D.c n L Y s q tm:=by
    obtain⟨a,k1,k2⟩:=r;exact⟨a,m.row.trans k1,k2⟩
   rcases ac with⟨hg,R'⟩|⟨h1,hr1,V1,Vr1,z,sh,hg,f⟩
   .have hC:fw P D Post u Vr':=by
     rcases a2 with k|⟨-,_,_,_,_,_,k⟩
     .exact k
     .exfalso;have a7:Base ([trap P.alt],D.X.2) hr.frame x.callers:=λe=>a4 (R.sideR.go.callers.tail e)
      obtain⟨-,sr⟩:=nu l.zero l.count Y R.sideR.go a7 R.sideR.sim R.sideR.gid R.sideR.ext R.unmk.1 d rfl av;rw[k,hg]at sr;cases sr
    obtain⟨ar,a1,e1,e2,e3,e4,-,e6⟩:=qI hL hi (.inl rfl) aa (show stepG P (0==0) x (W.at d)=_ from hg);subst e2;exact Fin.next e1 (hC ar W1 Q _ qs ρ' ρr' ρs h' g1 V' L n s q tm pc R' a3 ap al r1 A (hU.rcv m) (λy b k=>lL (hB y b k) F) e4 e6 (hP.app A F (kw R'.sideR.sim m.ev 0 _ _)))
   .obtain ⟨a,B,G⟩:=r1;have ad:D.c<W1.heap.size:=(eS B).1;have T:=kw f.at1.sideR.sim m.ev 0 x.frame.fn x.frame.place;cases L with
    |nil=>
     have ha:a=#[]:=Array.toList_inj.1 (by simpa using G);subst ha;have ab:=Conc.crowd_recv_closed (sl:=Q) (i:=0) S (show stepG P (0==0) x (W.at d)=_ from hg) B (hL.alone D.c Y);have⟨cc,c1,c2⟩:=f.rc;refine Fin.next (aa.trans ab) (l.fin ρ' h' _ V' W1 n s q tm _ _ _ qs (f.at1.side.nothing c1 f.sh c2) (wY f.at1 c1 f.sh c2) ⟨(hU.rcv m).kp,(hU.rcv m).off⟩ B ap (by simp[(eS S).1]) (hL.put (λH p=>?_) (by simp) (λj hj _=>sN (by omega))) ?_)
     .rcases Array.mem_append.1 p with k|k
      .exact (T H k).2.2.1
      .simp at k;subst k;exact⟨by simp,by simp⟩
     .rw [<-Array.append_assoc];exact(hP.app A F T).done ⟨rfl,rfl⟩ ad
    |cons v L=>
     have hC:fw P D Post u Vr':=by
      rcases a2 with k|⟨k,-⟩
      .exact k
      .exfalso;have⟨n0,b0,s0,q0,tm0,k1,k2⟩:=R.sideR.row;rw[k _ _ _ _ _ k1]at k2;cases k2
     have af:0<a.size:=by rw[<-lY,G];simp
     have a6:a.getD 0 Wo=v:=by rw[gD,<-gT,G];rfl
     have a5:(a.extract 1 a.size).toList=L:=by
      have hl:a.toList.length=a.size:=lY;rw[Array.toList_extract,G]at *;simp at hl ⊢;rw[<-hl];simp
     have ab:=Conc.crowd_recv_buf (sl:=Q) (i:=0) S (show stepG P (0==0) x (W.at d)=_ from hg) B af (hL.alone D.c Y);rw[a6]at ab;have r2:=dW W1 D.c n (a.extract 1 a.size) Y s (q+1) tm ad;rw[a5]at r2;have R2:=f.take l (al v (by simp)) (W':=W1.setChan D.c n (a.extract 1 a.size) Y s (q+1) tm) rfl (λb hb=>aP _ _ _ _ _ _ _ _ hb) ⟨a,B,G⟩ r2;have hu:∀H∈(#[{g:=0,fn:=g1.frame.fn,pos:=g1.frame.place,act:=.recv D.c q n},{g:=0,fn:=g1.frame.fn,pos:=g1.frame.place,act:=.recvDone D.c q}]:Trace),H.g=0/\du W1.heap.size H.act:=λH p=>by
      simp at p;rcases p with rfl|rfl<;>exact⟨rfl,ad⟩
     refine Fin.next (aa.trans ab) (hC _ _ Q _ qs ρ' ρr' ρs h' _ V' L n s (q+1) tm pc R2 a3 ap (λv hv=>al v (by simp[hv])) r2 A ((hU.rcv m).set _ _ _ _ _ _) (λy b k=>by rw[cI];exact lL (hB y b k) F) (by simp[(eS S).1]) (hL.put (λH p=>?_) (by simp) (λj hj _=>sN (by omega))) ?_)
     .rcases Array.mem_append.1 p with k|k
      .exact (T H k).2.2.1
      .exact (hu H k).2.still
     .rw [<-Array.append_assoc,cI];exact(hP.app A F T).app A (lR _) (λH p=>⟨(hu H p).1,vu (hu H p).2⟩)
  .obtain ⟨ar,q',a1,e1,e2,e3,e4,e5,e6,-⟩:=slip hL hP (λt i fn pos es hi _ h hm=>h.mute hi hm) hi hx a0 (λk=>k) (firm0 S R.run _) aa;exact Fin.next e1 (ih _ (by omega) ar (W.at d) Q (t++a1) q' (R.at d) r ⟨hU.kp,hU.off,hU.offR,hU.chan⟩ hB ((e3 0 (.inl rfl)).trans S) e4 e5 (lR _))
theorem sE(a:wW P D Post){hr:Wk}{Vr:Wj}(n:Dem P.alt D.Nr D.Tr hr Vr):fw P D Post hr Vr:=by
 induction n with
 | @stop g w h=>
  have⟨h1,k,i⟩:=a.tr g w h;refine pC a h1 (λc d=>?_) (λc d b Vr' _=>.inr ⟨k,?_⟩)
  .have ⟨_,_,_,_,_,h',V',e,l⟩:=i c d;exact⟨h',V',.comm e l⟩
  .have ⟨_,_,_,_,_,h',V',e,l⟩:=i c d;exact⟨_,_,_,_,_,e⟩
 | @step g w m h f _ ih=>exact pC a (a.nr g w m) f (λc d b Vr' j=>.inl (ih c d b Vr' j))
def Alone(P:Wv)(bo:Nat)(g:Wk):Nat->Wk->Wj->Prop:=
 Go.Conc.Goes P Y (λw v=>v.heap[bo]?=w.heap[bo]?) (λw w' es=>w'=w/\∀e∈es,∃a:Wu,e=⟨.cell a,Z,Z⟩/\a.block=bo) (λg' _=>g'=g)
section
variable {bo k:Nat} {g y:Wk} {W W1:Wj}
omit [Two P]in
theorem Alone.rely(h:Alone P bo g k y W)(a:W1.heap[bo]?=W.heap[bo]?):Alone P bo g k y W1:=
 Go.Conc.Goes.rely (λ_ _ _ h k=>k.trans h) h a
omit [Two P]in
theorem Alone.next(h:Alone P bo g k y W):y=g\/(y.status=.running/\∃f,k=f+1/\∀d,∃b es,stepG P Y y (W.at d)=.go b (W.at d) es/\(∀e∈es,∃a:Wu,e=⟨.cell a,Z,Z⟩/\a.block=bo)/\Alone P bo g f b (W.at d)):=by
 cases k with
 |zero=>exact .inl (h W rfl)
 |succ k=>
  rcases h with h|⟨c,h⟩
  .exact .inl (h W rfl)
  .refine .inr ⟨c,k,rfl,λd=>?_⟩;obtain⟨b,w',es,h1,⟨rfl,j⟩,i⟩:=Go.Conc.goes_elim (h (W.at d) rfl);exact⟨b,es,h1,j,i⟩
omit [Two P]in
theorem Alone.status(h:Alone P bo g k y W)(a:g.status=.running):y.status=.running:=by
 rcases h.next with rfl|⟨h,-⟩
 .exact a
 .exact h
theorem wZ{ρr:Ren}(b:∃x,ρr x bo/\¬ρr.ch x){es:Array Event}(h:∀e∈es,∃a:Wu,e=⟨.cell a,Z,Z⟩/\a.block=bo):∀e∈es,jg ρr e:=λe c=>by
 obtain⟨a,rfl,rfl⟩:=h e c;obtain⟨x,h1,d⟩:=b;exact⟨x,h1,(λh=>by cases h),d⟩
end
theorem yN{hr:Wk}{Vr:Wj}(hC:fw P D Post hr Vr){ρ ρr ρs:Ren}{h g:Wk}{V:Wj}{L:List Wx}{n s q:Nat}{tm:Bool}{pc:Nat}(hd:Dem P.alt (λg _=>NB [trap P.alt] g) D.T h V)(hp:LSs P.alt D.T D.h0 D.V0 h V)(z:∀v∈L,v∈D.L)(hF:Far ρr ρs)(X:∃x,ρr x D.bo/\¬ρr.ch x):
  ∀ (k:Nat) (gs:Array Wk) (W:Wj) (sl:Option (Nat×Nat)) (t:Trace) (m:Nat->Nat) (y:Wk),oV D ρ ρr W h hr g V Vr L->Alone P D.bo g k y W->kZ W D.c n L Y s q tm->yM D ρ ρr W->(∀y b,ρs y b->b<W.heap.size)->gs[0]?=J y->Lv P (λ_=>False) t gs m->PhC D.c pc ρs W.heap.size t->Fin P Post gs W sl t:=by
 intro k;induction k with
 |zero=>
  intro gs W sl t m y R S r f H l p G;rcases S.next with rfl|⟨-,k',e,-⟩
  .exact hC gs W sl t m ρ ρr ρs h y V L n s q tm pc R hd hp z r hF f H l p G
  .cases e
 |succ k ad=>
  intro gs W sl t m y R S r f H l p G;obtain⟨a,hM⟩:∃a,sumTo gs.size m<=a:=⟨_,lR _⟩;induction a using Nat.strongRecOn generalizing gs W sl t m with
  |_ a ih=>
   rcases S.next with rfl|⟨j,k',e,ab⟩
   .exact hC gs W sl t m ρ ρr ρs h y V L n s q tm pc R hd hp z r hF f H l p G
   .cases e;have⟨i,x,d,Q,u,hx,A⟩:=crowd_pick (P:=P) (w:=W) (sl:=sl) (iM p l j) ⟨0,_,l,j⟩;rcases Nat.eq_zero_or_pos i with rfl|B
    .obtain rfl:x=y:=by rw[l]at u;exact(oJ u).symm
     have⟨y',es,hg,aa,ac⟩:=ab d;obtain⟨o,F,e1,e2,e3,e4,-,e6⟩:=qI p u (.inl rfl) A (show stepG P (0==0) x (W.at d)=_ from hg);subst e2;exact Fin.next e1 (ad o (W.at d) Q _ m y' (R.at d) ac r ⟨f.kp,f.off,f.offR,f.chan⟩ H e4 e6 (G.app hF (lR _) (kw (R.at d).sideR.sim (wZ X aa) 0 _ _)))
    .obtain ⟨o,q',F,e1,e2,e3,e4,e5,e6,-⟩:=slip p G (λt i fn pos es u _ h hm=>h.mute u hm) u hx B (λk=>k) (firm0 l j _) A;exact Fin.next e1 (ih _ (by omega) o (W.at d) Q (t++F) q' (R.at d) (S.rely rfl) r ⟨f.kp,f.off,f.offR,f.chan⟩ H ((e3 0 (.inl rfl)).trans l) e4 e5 (lR _))
end
section
open Go.Conc (crowd Past EvL Deaf QuitsD woken awake crowd_pick runT_crowd_go rcase scase parked ph)
open Go.ConcN (sumTo upd sumTo_upd upd_ne upd_same)
variable {P:Wv} [Two P] {D:PhD P} {Post:Wx->Wj->Prop}
def Half(ρ ρs:Ren):Prop:=∀b x y,ρ x b->ρs y b->ρs.old y\/ρs.ch y
inductive jM (D:PhD P)(ρ ρr:Ren)(W:Wj)(buf:List Wx)(hr:Wk)(Vr:Wj):Wk->List Wx->Nat->Prop
 |run {h g:Wk} {V:Wj} {L:List Wx} (R:oV D ρ ρr W h hr g V Vr L) (hd:Dem P.alt (λg _=>NB [trap P.alt] g) D.T h V) (hp:LSs P.alt D.T D.h0 D.V0 h V):jM D ρ ρr W buf hr Vr g L 1
 |park {h1 hr1 g1 h:Wk} {V1 Vr1 V:Wj} {v z:Wx} {L:List Wx} {sh:CommShape} (C:Hy D ρ ρr W h1 hr1 g1 V1 Vr1 (v::L) z sh h hr V Vr) (hb:buf=[]) (hd:Dem P.alt (λg _=>NB [trap P.alt] g) D.T h V) (hp:LSs P.alt D.T D.h0 D.V0 h V):jM D ρ ρr W buf hr Vr (parked g1 #[rcase D.c z] sh) (v::L) 0
 |last {h1 hr1 g1 h hr':Wk} {V1 Vr1 V Vr':Wj} {z:Wx} {sh:CommShape} (C:Hy D ρ ρr W h1 hr1 g1 V1 Vr1 [] z sh h hr' V Vr') (hb:buf=[]) (hp:LSs P.alt D.T D.h0 D.V0 h V):jM D ρ ρr W buf hr Vr (parked g1 #[rcase D.c z] sh) [] 0
 |pre {h g y:Wk} {V:Wj} {L:List Wx} (k:Nat) (R:oV D ρ ρr W h hr g V Vr L) (hd:Dem P.alt (λg _=>NB [trap P.alt] g) D.T h V) (hp:LSs P.alt D.T D.h0 D.V0 h V) (hbo:(∃x,ρr x D.bo/\¬ρr.ch x)/\D.bo≠D.c) (hy:Alone P D.bo g k y W):jM D ρ ρr W buf hr Vr y L (k+2)
inductive gw (D:PhD P)(ρs:Ren)(W:Wj)(n:Nat)(buf:List Wx)(hs:Wk)(Vs:Wj):Wk->List Wx->Nat->Prop
 |run {s:Wk} {L:List Wx} (S:Snd P ([trap P.alt],D.Bs) ρs hs s Vs W D.cs D.c L):gw D ρs W n buf hs Vs s L 1
 |new {y s:Wk} {L:List Wx} (S:Snd P ([trap P.alt],D.Bs) ρs hs s Vs W D.cs D.c L) (hy:∀v,stepG P Z y v=.go s v #[]) (hst:y.status=.running):gw D ρs W n buf hs Vs y L 2
 |park {h1 s1:Wk} {V1:Wj} {L:List Wx} {cc:CommCase} {v z:Wx} (S:Snd P ([trap P.alt],D.Bs) ρs h1 s1 V1 W D.cs D.c L) (rc:RC ρs cc (scase D.c v z)) (lc:LC P.alt h1 cc .send V1 hs Vs) (hf:n<=buf.length):gw D ρs W n buf hs Vs (parked s1 #[scase D.c v z] .send) L 0
section
variable {ρ ρr ρs ρ' ρr' ρs':Ren} {W W1:Wj} {n:Nat} {buf:List Wx} {hr hs x:Wk} {Vr Vs:Wj} {L:List Wx} {f:Nat} {es:Array Event}
theorem oV.stays{h g:Wk}{V:Wj}(R:oV D ρ ρr W h hr g V Vr L)(i:W1.os=W.os)(h1:∀x b,ρ x b->b≠D.c->W1.heap[b]?=W.heap[b]?)(r:∀x b,ρr x b->b≠D.c->W1.heap[b]?=W.heap[b]?)(k:W1.heap[D.c]?=W.heap[D.c]?):oV D ρ ρr W1 h hr g V Vr L:=
 ⟨R.side.stays i h1 k,R.sideR.stays i r k,R.only,R.chR,R.unmk,R.base,R.all,λa b j d f=>by
  have⟨n,s,q,o,l,m,t,p,u⟩:=R.rest a b j d f;exact⟨n,s,q,o,l,m,t,p,by rw[h1 a b d (λe=>f (ρ.inj _ _ _ d (e▸R.side.pair)))];exact u⟩⟩
theorem jM.stays(R:jM D ρ ρr W buf hr Vr x L f)(d:W1.os=W.os)(h1:∀x b,ρ x b->b≠D.c->W1.heap[b]?=W.heap[b]?)(i:∀x b,ρr x b->b≠D.c->W1.heap[b]?=W.heap[b]?)(j:W1.heap[D.c]?=W.heap[D.c]?):jM D ρ ρr W1 buf hr Vr x L f:=by
 cases R with
 |run R h e=>exact .run (R.stays d h1 i j) h e
 |park a l h e=>exact .park ⟨a.at1.stays d h1 i j,a.sh,a.atc,a.rc,a.rcr⟩ l h e
 |last a l e=>exact .last ⟨a.at1.stays d h1 i j,a.sh,a.atc,a.rc,a.rcr⟩ l e
 |pre k R h e m r=>
  obtain⟨⟨p,n,q⟩,o⟩:=m;exact .pre k (R.stays d h1 i j) h e ⟨⟨p,n,q⟩,o⟩ (r.rely (i _ _ n o))
theorem gw.stays(S:gw D ρs W n buf hs Vs x L f)(a:W1.os=W.os)(h1:∀x b,ρs x b->b≠D.c->W1.heap[b]?=W.heap[b]?)(e:W1.heap[D.c]?=W.heap[D.c]?):gw D ρs W1 n buf hs Vs x L f:=by
 cases S with
 |run S=>exact .run (S.stays a h1 e)
 |new S k d=>exact .new (S.stays a h1 e) k d
 |park S j h i=>exact .park (S.stays a h1 e) j h i
theorem gw.lt(S:gw D ρs W n buf hs Vs x L f):∀y b,ρs y b->b<W.heap.size:=λy b k=>by
 cases S with
 |run S=>exact(S.sim.lt k).2
 |new S _ _=>exact(S.sim.lt k).2
 |park S _ _ _=>exact(S.sim.lt k).2
theorem gw.ch(S:gw D ρs W n buf hs Vs x L f):(∀y,ρs.ch y↔y=D.cs)/\ρs D.cs D.c:=by
 cases S with
 |run S=>exact⟨S.ch,S.pair⟩
 |new S _ _=>exact⟨S.ch,S.pair⟩
 |park S _ _ _=>exact⟨S.ch,S.pair⟩
theorem jM.ch(R:jM D ρ ρr W buf hr Vr x L f):((∀y,ρr.ch y->y=D.cr)/\ρr D.cr D.c)/\(∀y b,ρ y b->b<W.heap.size)/\∀y b,ρr y b->b<W.heap.size:=by
 cases R with
 |run R _ _=>exact⟨⟨R.chR,R.sideR.pair⟩,λy b k=>(R.side.sim.lt k).2,λy b k=>(R.sideR.sim.lt k).2⟩
 |park a _ _ _=>exact⟨⟨a.at1.chR,a.at1.sideR.pair⟩,λy b k=>(a.at1.side.sim.lt k).2,λy b k=>(a.at1.sideR.sim.lt k).2⟩
 |last a _ _=>exact⟨⟨a.at1.chR,a.at1.sideR.pair⟩,λy b k=>(a.at1.side.sim.lt k).2,λy b k=>(a.at1.sideR.sim.lt k).2⟩
 |pre _ R _ _ _ _=>exact⟨⟨R.chR,R.sideR.pair⟩,λy b k=>(R.side.sim.lt k).2,λy b k=>(R.sideR.sim.lt k).2⟩
theorem gw.pre(a:wW P D Post)(k:Dem P.alt D.Ns D.Ts hs Vs)(S:gw D ρs W n buf hs Vs x L f){b:List Wx}{s q:Nat}{e:Bool}(r:kZ W D.c n b Z s q e):L <+:D.L:=by
 have d:∀ {s:Wk} {W:Wj} {L:List Wx},Snd P ([trap P.alt],D.Bs) ρs hs s Vs W D.cs D.c L->L <+:D.L:=λS=>by
  have⟨n,b,s,q,e,h1,i⟩:=S.row;exact i▸(a.pre k _ _ _ _ _ _ h1).2
 cases S with
 |run S=>exact d S
 |new S _ _=>exact d S
 |park S j h hf=>
  obtain⟨v0,-,S2⟩:=S.push j h rfl (λ_ _=>rfl) r r;exact(List.prefix_append _ _).trans (d S2)
omit [Two P]in
theorem Moved.left(m:Moved ρ ρ' ρr ρr' W W1 D.c es)(hF:Far ρr ρs)(i:∀y b,ρs y b->b<W.heap.size)(e:∀y,ρr.ch y->ρr y D.c):∀x b,ρs x b->b≠D.c->W1.heap[b]?=W.heap[b]?:=λx b f d=>
 m.keep.block b (i x b f) (λa h=>by
  rcases hF b a x h f with⟨k,-⟩|⟨k,-⟩
  .exact k
  .exact absurd (ρr.fn _ _ _ h (e a k)) d)
omit [Two P]in
theorem Moved.half(m:Moved ρ ρ' ρr ρr' W W1 D.c es)(e:Half ρ ρs)(d:∀y b,ρs y b->b<W.heap.size):Half ρ' ρs:=λb x y h1 a=>by
 rcases m.new x b h1 with k|k
 .exact e b x y k a
 .have:=d y b a;omega
omit [Two P]in
theorem ky.far(m:ky ρs ρs' W W1 D.c es)(hF:Far ρr ρs)(d:∀y b,ρr y b->b<W.heap.size):Far ρr ρs':=λb x y h1 a=>by
 rcases m.new y b a with k|k
 .rw [m.le.old,m.le.ch];exact hF b x y h1 k
 .have:=d x b h1;omega
omit [Two P]in
theorem ky.half(m:ky ρs ρs' W W1 D.c es)(e:Half ρ ρs)(d:∀y b,ρ y b->b<W.heap.size):Half ρ ρs':=λb x y h1 a=>by
 rcases m.new y b a with k|k
 .rw [m.le.old,m.le.ch];exact e b x y h1 k
 .have:=d x b h1;omega
omit [Two P]in
theorem ky.left(m:ky ρs ρs' W W1 D.c es){σ:Ren}(j:Half σ ρs)(i:∀y b,σ y b->b<W.heap.size)(d:∀y,ρs.ch y->ρs y D.c):∀x b,σ x b->b≠D.c->W1.heap[b]?=W.heap[b]?:=λx b f e=>
 m.keep.block b (i x b f) (λa h=>by
  rcases j b x a f h with k|k
  .exact k
  .exact absurd (ρs.fn _ _ _ h (d a k)) e)
theorem Far.half(h:Far ρr ρs):Half ρr ρs:=λb x y h1 a=>(h b x y h1 a).imp (·.2) (·.2)
theorem jM.again(R:jM D ρ ρr W buf hr Vr x L f){w:Wj}{s q:Nat}{h:Bool}(r:kZ w D.c m Q Z s q h):x.again w=x:=by
 obtain⟨a,r,-⟩:=r;cases R with
 |run R _ _=>exact Conc.again_running _ (.inl R.run)
 |park d _ _ _=>exact Conc.again_recv_open r
 |last d _ _=>exact Conc.again_recv_open r
 |pre _ R _ _ _ i=>exact Conc.again_running _ (.inl (i.status R.run))
theorem gw.again(S:gw D ρs W n buf hs Vs x L f){w:Wj}{s q:Nat}{h:Bool}(r:kZ w D.c m Q Z s q h):x.again w=x:=by
 obtain⟨a,r,-⟩:=r;cases S with
 |run S=>exact Conc.again_running _ (.inl S.go.status.2)
 |new S _ d=>exact Conc.again_running _ (.inl d)
 |park S _ _ _=>exact Conc.again_send_open r
theorem jM.status(R:jM D ρ ρr W buf hr Vr x L f):x.status=.running\/x.status=.blocked:=by
 cases R with
 |run R _ _=>exact .inl R.run
 |park a _ _ _=>exact .inr rfl
 |last a _ _=>exact .inr rfl
 |pre _ R _ _ _ b=>exact .inl (b.status R.run)
theorem gw.status(S:gw D ρs W n buf hs Vs x L f):x.status=.running\/x.status=.blocked:=by
 cases S with
 |run S=>exact .inl S.go.status.2
 |new S _ a=>exact .inl a
 |park S _ _ _=>exact .inr rfl
end
end
section
open Go.Conc (crowd Past EvL Deaf QuitsD woken awake crowd_pick runT_crowd_go rcase scase parked ph)
open Go.ConcN (sumTo upd sumTo_upd upd_ne upd_same)
variable {P:Wv} [Two P] {D:PhD P} {Post:Wx->Wj->Prop}
structure ly (D:PhD P)(ρ ρr ρs:Ren)(W:Wj):Prop where
 half:Half ρ ρs
 out:yM D ρ ρr W
 offS:Off D.U ρs
omit [Two P]in
theorem ly.rcv{ρ ρr ρs ρ' ρr':Ren}{W W1:Wj}{es:Array Event}(h:ly D ρ ρr ρs W)(m:Moved ρ ρ' ρr ρr' W W1 D.c es)(a:∀y b,ρs y b->b<W.heap.size):ly D ρ' ρr' ρs W1:=⟨m.half h.half a,h.out.rcv m,h.offS⟩
omit [Two P]in
theorem ly.snd{ρ ρr ρs ρs':Ren}{W W1:Wj}{es:Array Event}(h:ly D ρ ρr ρs W)(m:ky ρs ρs' W W1 D.c es)(a:∀y b,ρ y b->b<W.heap.size):ly D ρ ρr ρs' W1:=⟨m.half h.half a,⟨h.out.kp.keep h.offS m.keep,h.out.off,h.out.offR,h.out.chan⟩,h.offS.new h.out.kp m.le.sub m.new ⟨m.le.pin,m.le.bad⟩⟩
omit [Two P]in
theorem ly.set{ρ ρr ρs:Ren}{W:Wj}(h:ly D ρ ρr ρs W){n:Nat}{b:Array Wx}{tm:Bool}{s q:Nat}:ly D ρ ρr ρs (W.setChan D.c n b tm s q cl):=⟨h.half,h.out.set _ _ _ _ _ _,h.offS⟩
omit [Two P]in
theorem yM.shut{ρ ρr:Ren}{W:Wj}(h:yM D ρ ρr W){n:Nat}{b:Array Wx}{s q:Nat}{a:Bool}:yM D ρ ρr (eA W D.c n b s q a):=h.set _ _ _ _ _ _
omit [Two P]in
theorem ly.at{ρ ρr ρs:Ren}{W:Wj}(h:ly D ρ ρr ρs W)(d:Nat):ly D ρ ρr ρs (W.at d):=⟨h.half,⟨h.out.kp,h.out.off,h.out.offR,h.out.chan⟩,h.offS⟩
def iO(P:Wv) [Two P](D:PhD P)(Post:Wx->Wj->Prop)(hr:Wk)(Vr:Wj)(hs:Wk)(Vs:Wj):Prop:=
 ∀ (gs:Array Wk) (W:Wj) (sl:Option (Nat×Nat)) (t:Trace) (h:Nat->Nat) (ρ ρr ρs:Ren) (b d:Wk) (L Ls buf a:List Wx) (n s q:Nat) (f:Bool) (j e:Nat),jM D ρ ρr W buf hr Vr b L j->gw D ρs W n buf hs Vs d Ls e->kZ W D.c n buf Z s q f->0<n->Ls=a++buf->D.L=a++L->Far ρr ρs->ly D ρ ρr ρs W->gs[0]?=J b->gs[D.k]?=J d->Lv P (λi=>i=D.k) t gs h->PhT 0 D.k ρr ρs W.heap.size t->Fin P Post gs W sl t
omit [Two P]in
theorem gY{gs:Array Wk}{t:Trace}{m:Nat->Nat}{k i:Nat}(q:Lv P (λj=>j=k) t gs m){y:Wk}{j:Nat}(a:(i=0/\j=k)\/(i=k/\j=0))(n:gs[j]?=J y)(r:Nat)(b:Bool)(o:Conc.offersAt y r b=[]):partners (gs.setIfInBounds i ph) r b=[]:=by
 refine Conc.partners_nil (λl x c=>?_);rcases Conc.getElem?_stand gs i l x c with⟨-,rfl⟩|⟨hne,c⟩
 .exact Conc.offersAt_ph r b
 .by_cases d:l=j
  .subst d;rw[n]at c;cases c;exact o
  .refine Conc.offersAt_of_not_blocked (λe=>?_) r b;have p:0<l:=by rcases a with⟨rfl,rfl⟩|⟨rfl,rfl⟩<;>omega
   have f:¬l=k:=by rcases a with⟨rfl,rfl⟩|⟨rfl,rfl⟩<;>assumption
   rcases(q.old l x p f c).status with h|h<;>rw[h]at e<;>cases e
omit [Two P]in
theorem pD{gs:Array Wk}{t:Trace}{m:Nat->Nat}{k i:Nat}(q:Lv P (λj=>j=k) t gs m){y:Wk}{j:Nat}(a:(i=0/\j=k)\/(i=k/\j=0))(hne0:k≠0)(n:gs[j]?=J y)(r:Nat)(b:Bool)(o:Conc.offersAt y r b=[0]):partners (gs.setIfInBounds i ph) r b=[(j,0)]:=by
 have c:j≠i:=by rcases a with⟨rfl,rfl⟩|⟨rfl,rfl⟩<;>omega
 rw[Conc.partners_one (Conc.stand_get c n) (λl x hl d=>?_),o]
 .rfl
 .rcases Conc.getElem?_stand gs i l x d with⟨-,rfl⟩|⟨hne,d⟩
  .exact Conc.offersAt_ph r b
  .refine Conc.offersAt_of_not_blocked (λe=>?_) r b;have p:0<l:=by rcases a with⟨rfl,rfl⟩|⟨rfl,rfl⟩<;>omega
   have f:¬l=k:=by rcases a with⟨rfl,rfl⟩|⟨rfl,rfl⟩<;>assumption
   rcases(q.old l x p f d).status with h|h<;>rw[h]at e<;>cases e
theorem xd{a b c l:List Wx}{v:Wx}(h1:a=c++(v::b))(h:a <+:c++l):∃f,l=v::f:=by
 subst h1;obtain⟨e,d⟩:=h;simp only[pA,List.append_cancel_left_eq,List.cons_append]at d;exact⟨_,d.symm⟩
theorem oV.other{ρ ρr:Ren}{W W1:Wj}{h hr g:Wk}{V Vr:Wj}{L:List Wx}(R:oV D ρ ρr W h hr g V Vr L)(f:W1.os=W.os)(hs:∀Q,Q≠D.c->W1.heap[Q]?=W.heap[Q]?){n j:Nat}{x:List Wx}{u:Bool}{s q k:Nat}{tm:Bool}(t:kZ W D.c n Q u s q tm)(r:kZ W1 D.c j x cl k m tm):oV D ρ ρr W1 h hr g V Vr L:=
 ⟨R.side.other f (λ_ Q _ l=>hs Q l) t r,R.sideR.other f (λ_ Q _ l=>hs Q l) t r,R.only,R.chR,R.unmk,R.base,R.all,λa Q p i d=>by
  have⟨n,s,q,tm,j,k,m,v,y⟩:=R.rest a Q p i d;exact⟨n,s,q,tm,j,k,m,v,by rw[hs Q (λe=>d (ρ.inj _ _ _ i (e▸R.side.pair)))];exact y⟩⟩
theorem PhT.ops{p q:Nat}{ρ ρ':Ren}{B:Nat}(hF:Far ρ ρ'):∀ (l:List MemOp)(t:Trace),PhT p q ρ ρ' B t->(∀b∈l,(b.g=p\/b.g=q)/\du B b.act)->PhT p q ρ ρ' B (t++l.toArray):=by
 intro l;induction l with
 |nil=>intro t h _;simpa using h
 |cons x l ih=>
  intro t h f;have e:t++(x::l).toArray=(t++#[x])++l.toArray:=by apply Array.ext';simp
  rw[e];refine ih _ ?_ (λb a=>f b (by simp[a]));have⟨c,d⟩:=f x (by simp);rcases c with c|c
  .exact h.app (Ren.le_refl _) hF (lR _) (λb a=>by simp at a;subst a;exact⟨c,vu d⟩)
  .exact (h.symm.app (Ren.le_refl _) hF.symm (lR _) (λb a=>by simp at a;subst a;exact⟨c,vu d⟩)).symm
theorem nv(f:wW P D Post){hr hs:Wk}{Vr Vs:Wj}(b2:Dem P.alt D.Ns D.Ts hs Vs)(d2:NB [trap P.alt] hr)(er:∀τ d,∃bk Vr',LS P.alt hr (Vr.on τ d) bk Vr')
  (hn:∀τ d bk Vr',LS P.alt hr (Vr.on τ d) bk Vr'->(∀hs Vs,Dem P.alt D.Ns D.Ts hs Vs->iO P D Post bk Vr' hs Vs)\/((∀n b s q tm,Vr.heap[D.cr]?=J (.chan n b Y s q tm)->b.toList=[])/\∃h1 cc s V1 es,stepG P.alt Y hr (Vr.on τ d)=.comm h1 cc Y s V1 es))
  (bl:fw P D Post hr Vr)
  (c9:(NB [trap P.alt] hs/\∀τ d,(∃bp Vs',LS P.alt hs (Vs.on τ d) bp Vs')/\∀bp Vs',LS P.alt hs (Vs.on τ d) bp Vs'->Dem P.alt D.Ns D.Ts bp Vs'/\iO P D Post hr Vr bp Vs')\/D.Ts hs Vs):iO P D Post hr Vr hs Vs:=by
 intro gs W sl t qs ρ ρr ρs x0 T L Ls buf H n s q tm f1 f2 RP SP r a9 a0 al hF hH h0 hk hL hP;obtain⟨A,hM⟩:∃A,sumTo gs.size qs+f1+f2<=A:=⟨_,lR _⟩;induction A using Nat.strongRecOn generalizing gs W sl t qs x0 T ρ ρr ρs f1 f2 with
 |_ A ih=>
  have hkpos:0<D.k:=Nat.pos_of_ne_zero f.k0;have bw:0<gs.size:=(eS h0).1;have a4:D.k<gs.size:=(eS hk).1;have ei:∀y∈gs,awake y:=λy hy=>by
   obtain⟨i,hi,rfl⟩:=Array.mem_iff_getElem.1 hy;by_cases c8:i=0
   .subst c8;have:gs[0]=x0:=by simpa[eG hi]using h0
    rw[this];exact Conc.awake_of (RP.status.imp id .inl)
   .by_cases b9:i=D.k
    .subst b9;have:gs[D.k]=T:=by simpa[eG hi]using hk
     rw[this];exact Conc.awake_of (SP.status.imp id .inl)
    .exact Conc.awake_of ((hL.old i _ (by omega) b9 (eG hi)).status.elim .inl λx=>.inr (.inr x))
  have da:∃ (i:Nat) (g:Wk),gs[i]?=J g/\g.status=.running:=by
   cases RP with
   |run R _ _=>exact⟨0,_,h0,R.run⟩
   |pre _ R _ _ _ hy=>exact⟨0,_,h0,hy.status R.run⟩
   |park p hb _ _=>
    cases SP with
    |run S=>exact⟨_,_,hk,S.go.status.2⟩
    |new S _ ad=>exact⟨_,_,hk,ad⟩
    |park _ _ _ hf=>rw[hb]at hf;simp at hf;omega
   |last p hb _=>
    cases SP with
    |run S=>exact⟨_,_,hk,S.go.status.2⟩
    |new S _ ad=>exact⟨_,_,hk,ad⟩
    |park _ _ _ hf=>rw[hb]at hf;simp at hf;omega
  obtain⟨i,x,d,Q,hi,hx,ad⟩:=crowd_pick (P:=P) (w:=W) (sl:=sl) ei da;by_cases c8:i=0
  .subst c8;obtain rfl:x0=x:=by rw[h0]at hi;exact oJ hi
   cases RP with
   |park p _ _ _=>cases hx
   |last p _ _=>cases hx
   | @pre h g _ V _ k R hd hp bd hy=>
    rcases hy.next with rfl|⟨bv,k',rfl,b5⟩
    .exact ih (sumTo gs.size qs+1+f2) (by omega) gs W sl t qs ρ ρr ρs x0 T 1 f2 (.run R hd hp) SP r hF hH h0 hk hL hP (lR _)
    .obtain ⟨y',es,hg,a1,ex⟩:=b5 d;obtain⟨a8,ca,e1,e2,e3,e4,e5,e6⟩:=qI (K:=λi=>i=D.k) hL hi (.inl rfl) ad (show stepG P (0==0) x0 (W.at d)=_ from hg);subst e2;have SP1:gw D ρs (W.at d) n buf hs Vs T Ls f2:=SP.stays rfl (λ_ _ _ _=>rfl) rfl;exact Fin.next e1 (ih (sumTo a8.size qs+(k'+2)+f2) (by rw[e3];omega) a8 (W.at d) Q _ qs ρ ρr ρs y' T (k'+2) f2 (.pre k' (R.at d) hd hp bd ex) SP1 r hF (hH.at d) e4 (by rw[e5 D.k T f.k0 hk,fN (SP1.again (w:=W.at d) r)]) e6 (hP.app (Ren.le_refl _) hF (lR _) (kw (R.at d).sideR.sim (wZ bd.1 a1) 0 _ _)) (lR _))
   | @run h _ V _ R hd hp=>
    obtain⟨h',V',hl,av,af⟩:=sD f R hd hp d;obtain⟨bk,Vr',c1⟩:=er W.tape d;have b5:=hn _ _ _ _ c1;obtain⟨g1,W1,es,ρ',ρr',m,c4⟩:=wX f R d2 d hl c1;have c2:=SP.lt;have aa:=m.far hF c2;have a3:=hH.rcv m c2;have bx:W.heap.size<=W1.heap.size:=m.keep.size;have r1:kZ W1 D.c n buf Z s q tm:=by
     obtain⟨a,k1,k2⟩:=r;exact⟨a,m.row.trans k1,k2⟩
    have c7:=m.left hF c2 (λy k=>by rw[R.chR y k];exact R.sideR.pair);have SP1:gw D ρs W1 n buf hs Vs T Ls f2:=SP.stays m.keep.os c7 m.row;have ds:=SP.pre f b2 r;rcases c4 with⟨hg,R'⟩|⟨h1,hr1,V1,Vr1,z,sh,hg,p⟩
    .have hC:∀hs Vs,Dem P.alt D.Ns D.Ts hs Vs->iO P D Post bk Vr' hs Vs:=by
      rcases b5 with k|⟨-,_,_,_,_,_,k⟩
      .exact k
      .exfalso;have el:Base ([trap P.alt],D.X.2) hr.frame x0.callers:=λe=>d2 (R.sideR.go.callers.tail e)
       obtain⟨-,sr⟩:=nu f.zero f.count Y R.sideR.go el R.sideR.sim R.sideR.gid R.sideR.ext R.unmk.1 d rfl c1;rw[k,hg]at sr;cases sr
     obtain⟨a8,ca,e1,e2,e3,e4,e5,e6⟩:=qI (K:=λi=>i=D.k) hL hi (.inl rfl) ad (show stepG P (0==0) x0 (W.at d)=_ from hg);subst e2;exact Fin.next e1 (hC hs Vs b2 a8 W1 Q _ qs ρ' ρr' ρs g1 T L Ls buf H n s q tm 1 f2 (.run R' av af) SP1 r1 a9 a0 al aa a3 e4 (by rw[e5 D.k T f.k0 hk,fN (SP1.again r1)]) e6 (hP.app m.ler aa bx (kw R'.sideR.sim m.ev 0 _ _)))
    .obtain ⟨a,F,G⟩:=r1;have ac:D.c<W1.heap.size:=(eS F).1;have a1:=kw p.at1.sideR.sim m.ev 0 x0.frame.fn x0.frame.place;have a6:=hP.app m.ler aa bx a1;have ar:stepG P (0==0) x0 (W.at d)=.comm g1 #[rcase D.c z] Y sh W1 es:=hg;cases buf with
     |nil=>
      have ap:Conc.offersAt T D.c Y=[]:=by
       cases SP1 with
       |run S=>exact Conc.offersAt_of_not_blocked (by rw[S.go.status.2];exactλh=>by cases h) _ _
       |new S _ ad=>exact Conc.offersAt_of_not_blocked (by rw[ad];exactλh=>by cases h) _ _
       |park _ _ _ hf=>simp at hf;omega
      have ha:a=#[]:=Array.toList_inj.1 (by simpa using G);subst ha;have ab:=Conc.crowd_waits (sl:=Q) (i:=0) hi ar (λcc bn=>by
       simp at bn;subst bn;exact Conc.ways_recv_none F (gY hL (.inl ⟨rfl,rfl⟩) hk D.c Y ap))
      have b1:Lv P (λi=>i=D.k) (t++MemOp.ofEvents 0 x0.frame.fn x0.frame.place es) (gs.setIfInBounds 0 (parked g1 #[rcase D.c z] sh)) qs:=hL.put (λop B=>(a1 op B).2.2.1) (by simp) (λj hj _=>sN (by omega));have dd:(gs.setIfInBounds 0 (parked g1 #[rcase D.c z] sh))[D.k]?=J T:=by rw[sN (by omega)];exact hk
      have ea:(gs.setIfInBounds 0 (parked g1 #[rcase D.c z] sh))[0]?=J (parked g1 #[rcase D.c z] sh):=by simp[bw]
      refine Fin.next (ad.trans ab) ?_
      cases L with
      |nil=>exact ih (sumTo gs.size qs+0+f2) (by omega) _ W1 Q _ qs ρ' ρr' ρs _ T 0 f2 (.last p rfl af) SP1 ⟨_,F,G⟩ aa a3 ea dd b1 a6 (by simp)
      |cons v L=>
       have hC:∀hs Vs,Dem P.alt D.Ns D.Ts hs Vs->iO P D Post bk Vr' hs Vs:=by
        rcases b5 with k|⟨k,-⟩
        .exact k
        .exfalso;obtain⟨n0,b0,s0,q0,dt,k1,k2⟩:=R.sideR.row;rw[k _ _ _ _ _ k1]at k2;cases k2
       exact hC hs Vs b2 _ W1 Q _ qs ρ' ρr' ρs _ T (v::L) Ls [] H n s q tm 0 f2 (.park p rfl av af) SP1 ⟨_,F,G⟩ a9 a0 al aa a3 ea dd b1 a6
     |cons v b4=>
      obtain⟨L',rfl⟩:=xd a0 (al▸ds);have hC:∀hs Vs,Dem P.alt D.Ns D.Ts hs Vs->iO P D Post bk Vr' hs Vs:=by
       rcases b5 with k|⟨k,-⟩
       .exact k
       .exfalso;obtain⟨n0,b0,s0,q0,dt,k1,k2⟩:=R.sideR.row;rw[k _ _ _ _ _ k1]at k2;cases k2
      have hv:v∈D.L:=by rw[al];simp
      have bt:0<a.size:=by rw[<-lY,G];simp
      have cj:a.getD 0 Wo=v:=by rw[gD,<-gT,G];rfl
      have ct:(a.extract 1 a.size).toList=b4:=by
       have hl:a.toList.length=a.size:=lY;rw[Array.toList_extract,G]at *;simp at hl ⊢;rw[<-hl];simp
      have dy:Conc.offersAt T D.c Y=[]->(∀W2:Wj,W2.os=W1.os->(∀b,b≠D.c->W2.heap[b]?=W1.heap[b]?)->∀b' s' q',kZ W2 D.c n b' Z s' q' tm->gw D ρs W2 n b' hs Vs T Ls f2)->Fin P Post gs W sl t:=λap ek=>by
       have ab:=Conc.crowd_recv_buf (sl:=Q) (i:=0) hi ar F bt (gY hL (.inl ⟨rfl,rfl⟩) hk D.c Y ap);rw[cj]at ab;have r2:=dW W1 D.c n (a.extract 1 a.size) Z s (q+1) tm ac;rw[ct]at r2;have R2:=p.take f hv (W':=W1.setChan D.c n (a.extract 1 a.size) Z s (q+1) tm) rfl (λb hb=>aP _ _ _ _ _ _ _ _ hb) ⟨a,F,G⟩ r2;have hu:∀op∈[({g:=0,fn:=g1.frame.fn,pos:=g1.frame.place,act:=.recv D.c q n}:MemOp),{g:=0,fn:=g1.frame.fn,pos:=g1.frame.place,act:=.recvDone D.c q}],(op.g=0\/op.g=D.k)/\du W1.heap.size op.act:=λop B=>by
        simp at B;rcases B with rfl|rfl<;>exact⟨.inl rfl,ac⟩
       refine Fin.next (ad.trans ab) (hC hs Vs b2 _ _ Q _ qs ρ' ρr' ρs _ T L' Ls b4 (H++[v]) n s (q+1) tm 1 f2 (.run R2 av af) (ek (W1.setChan D.c n (a.extract 1 a.size) Z s (q+1) tm) rfl (λb hb=>aP _ _ _ _ _ _ _ _ hb) _ _ _ r2) r2 a9 (by rw[a0];simp) (by rw[al];simp) aa a3.set (by simp[bw]) (by rw[sN (by omega)];exact hk) (hL.put (λop B=>?_) (by simp) (λj hj _=>sN (by omega))) ?_)
       .rcases Array.mem_append.1 B with k|k
        .exact (a1 op k).2.2.1
        .exact (hu op (by simpa using k)).2.still
       .rw [<-Array.append_assoc,cI];exact PhT.ops aa _ _ a6 hu
      cases SP1 with
      |run S=>exact dy (Conc.offersAt_of_not_blocked (by rw[S.go.status.2];exactλh=>by cases h) _ _) (λW2 b7 hb b' s' q' r2=>.run (S.other b7 (λ_ b _ k=>hb b k) ⟨a,F,G⟩ r2))
      |new S hy bv=>exact dy (Conc.offersAt_of_not_blocked (by rw[bv];exactλh=>by cases h) _ _) (λW2 b7 hb b' s' q' r2=>.new (S.other b7 (λ_ b _ k=>hb b k) ⟨a,F,G⟩ r2) hy bv)
      | @park h1s s1 V1s _ cc v1 z1 S rc lc hf=>
       have ap:Conc.offersAt (parked s1 #[scase D.c v1 z1] .send) D.c Y=[0]:=by rw[Conc.offersAt_parked_send];simp
       have ab:=oj (sl:=Q) (i:=0) (j:=D.k) hi ar F bt f.k0 hk (pD hL (.inl ⟨rfl,rfl⟩) f.k0 hk D.c Y ap);rw[cj]at ab;have r2:=dW W1 D.c n ((a.extract 1 a.size).push v1) Z (s+1) (q+1) tm ac;rw[Array.toList_push,ct]at r2;have R2:=p.take f hv (W':=W1.setChan D.c n ((a.extract 1 a.size).push v1) Z (s+1) (q+1) tm) rfl (λb hb=>aP _ _ _ _ _ _ _ _ hb) ⟨a,F,G⟩ r2;obtain⟨v0,cv,S2⟩:=S.push rc lc (W':=W1.setChan D.c n ((a.extract 1 a.size).push v1) Z (s+1) (q+1) tm) rfl (λb hb=>aP _ _ _ _ _ _ _ _ hb) ⟨a,F,G⟩ r2;have bi:Ls++[v0] <+:D.L:=by
        obtain⟨_,_,_,_,_,k1,k2⟩:=S2.row;exact k2▸(f.pre b2 _ _ _ _ _ _ k1).2
       obtain rfl:v1=v0:=(f.flat v0 (bi.subset (by simp)) ρs).2 v1 cv;have hu:∀op∈[({g:=0,fn:=g1.frame.fn,pos:=g1.frame.place,act:=.recv D.c q n}:MemOp),{g:=0,fn:=g1.frame.fn,pos:=g1.frame.place,act:=.recvDone D.c q},{g:=D.k,fn:=s1.frame.fn,pos:=s1.frame.place,act:=.send D.c s},{g:=D.k,fn:=s1.frame.fn,pos:=s1.frame.place,act:=.sendDone D.c s}],(op.g=0\/op.g=D.k)/\du W1.heap.size op.act:=λop B=>by
        simp at B;rcases B with rfl|rfl|rfl|rfl
        .exact ⟨.inl rfl,ac⟩
        .exact ⟨.inl rfl,ac⟩
        .exact ⟨.inr rfl,ac⟩
        .exact ⟨.inr rfl,ac⟩
       refine Fin.next (ad.trans ab) (hC hs Vs b2 _ _ Q _ qs ρ' ρr' ρs _ (s1.finishComm P #[scase D.c v1 z1] .send 0 Wo Z) L' (Ls++[v1]) (b4++[v1]) (H++[v]) n (s+1) (q+1) tm 1 1 (.run R2 av af) (.run S2) r2 a9 (by rw[a0];simp) (by rw[al];simp) aa a3.set (by simp[bw]) (by rw[sN (by omega)];simp[a4]) (hL.put (λop B=>?_) (by simp) (λj hj a5=>by rw[sN (by omega),sN (λe=>a5 e.symm)])) ?_)
       .rcases Array.mem_append.1 B with k|k
        .exact (a1 op k).2.2.1
        .exact (hu op (by simpa using k)).2.still
       .rw [<-Array.append_assoc,cI];exact PhT.ops aa _ _ a6 hu
  .by_cases b9:i=D.k
   .subst b9;obtain rfl:T=x:=by rw[hk]at hi;exact oJ hi
    have b3:(D.k==0)=false:=beq_eq_false_iff_ne.2 f.k0;obtain⟨⟨hchr,hpr⟩,d1,d5⟩:=RP.ch;have ck:∀y,ρs.ch y->ρs y D.c:=λy k=>by rw[(SP.ch.1 y).1 k];exact SP.ch.2
    cases SP with
    |park _ _ _ _=>cases hx
    | @new _ s0 _ S hy bv=>
     obtain⟨a8,ca,e1,e2,e3,e4,e5,e6⟩:=qI (K:=λi=>i=D.k) hL hi (.inr rfl) ad (show stepG P (D.k==0) T (W.at d)=.go s0 (W.at d) #[]by rw[b3];exact hy _);subst e2;rw[iN,Array.append_empty]at e6;rw[iN]at e1;refine Fin.next e1 (ih (sumTo a8.size qs+f1+1) (by rw[e3];omega) a8 (W.at d) Q _ qs ρ ρr ρs x0 s0 f1 1 (RP.stays rfl (λ_ _ _ _=>rfl) (λ_ _ _ _=>rfl) rfl) (.run (S.stays rfl (λ_ _ _ _=>rfl) rfl)) r hF (hH.at d) ?_ e4 ?_ ?_ (lR _))
     .rw [e5 0 x0 (by omega) h0,fN (RP.again (w:=W.at d) r)]
     .rw [Array.append_empty];exact e6
     .rw [Array.append_empty];exact hP
    |run S=>
     rcases c9 with⟨df,c3⟩|eg
     .obtain ⟨⟨bp,Vs',hl⟩,d0⟩:=c3 W.tape d;obtain⟨cp,hO⟩:=d0 _ _ hl;obtain⟨s1,W1,es,ρs',m,c4⟩:=DP f S df d hl (λn b cl s q tm k=>(f.pre cp _ _ _ _ _ _ k).1);have aa:=m.far hF d5;have a3:=hH.snd m d1;have bx:W.heap.size<=W1.heap.size:=m.keep.size;have RP1:jM D ρ ρr W1 buf hr Vr x0 L f1:=RP.stays m.keep.os (m.left hH.half d1 ck) (m.left hF.half d5 ck) m.row;have r1:kZ W1 D.c n buf Z s q tm:=by
       obtain⟨a,k1,k2⟩:=r;exact⟨a,m.row.trans k1,k2⟩
      rcases c4 with⟨hg,S'⟩|⟨h1,V1,cc,v,z,hg,S1,rc,lc⟩|⟨r',v,z,n',b',s',q',tm',hg,d6,S'⟩
      .obtain ⟨a8,ca,e1,e2,e3,e4,e5,e6⟩:=qI (K:=λi=>i=D.k) hL hi (.inr rfl) ad (show stepG P (D.k==0) T (W.at d)=_ by rw[b3];exact hg);subst e2;exact Fin.next e1 (hO a8 W1 Q _ qs ρ ρr ρs' x0 s1 L Ls buf H n s q tm f1 1 RP1 (.run S') r1 a9 a0 al aa a3 (by rw[e5 0 x0 (by omega) h0,fN (RP1.again r1)]) e4 e6 (hP.symm.app m.le aa.symm bx (kw S'.sim m.ev D.k _ _)).symm)
      .obtain ⟨a,F,G⟩:=r1;have ac:D.c<W1.heap.size:=(eS F).1;have a1:=kw S1.sim m.ev D.k T.frame.fn T.frame.place;have a6:=(hP.symm.app m.le aa.symm bx a1).symm;have ar:stepG P (D.k==0) T (W.at d)=.comm s1 #[scase D.c v z] Y .send W1 es:=by rw[b3];exact hg
       have bq:∀ (W2:Wj),W2.os=W1.os->(∀b,b≠D.c->W2.heap[b]?=W1.heap[b]?)->∀n' b' s' q',kZ W2 D.c n' b' Z s' q' tm->Ls++[v] <+:D.L/\Snd P ([trap P.alt],D.Bs) ρs' bp (s1.finishComm P #[scase D.c v z] .send 0 Wo Z) Vs' W2 D.cs D.c (Ls++[v]):=λW2 b7 hb n' b' s' q' r2=>by
        obtain⟨v0,cv,S2⟩:=S1.push rc lc b7 hb ⟨a,F,G⟩ r2;have bi:Ls++[v0] <+:D.L:=by
         obtain⟨_,_,_,_,_,k1,k2⟩:=S2.row;exact k2▸(f.pre cp _ _ _ _ _ _ k1).2
        obtain rfl:v=v0:=(f.flat v0 (bi.subset (by simp)) ρs').2 v cv;exact⟨bi,S2⟩
       have be:∀y,(gs.setIfInBounds D.k y)[0]?=J x0:=λy=>by rw[sN f.k0];exact h0
       have lv:∀ (y:Wk) (u:Trace),(∀op∈u,du W1.heap.size op.act)->Lv P (λi=>i=D.k) (t++(MemOp.ofEvents D.k T.frame.fn T.frame.place es++u)) (gs.setIfInBounds D.k y) qs:=λy u hu=>hL.put (λop B=>by
        rcases Array.mem_append.1 B with k|k
        .exact (a1 op k).2.2.1
        .exact (hu op k).still) (by simp) (λj hj a5=>sN (λe=>a5 e.symm))
       cases RP1 with
       |last p hb hp=>
        subst hb;obtain⟨k1,-⟩:=bq W1 rfl (λ_ _=>rfl) n [] s q ⟨a,F,G⟩;rw[a0,al]at k1;have:=k1.length_le;simp only[lP,lC,lN]at this;omega
       | @park et d4 g1 h' V1' Vr1' V' vL z' L' sh p hb av af=>
        subst hb;have ap:Conc.offersAt (parked g1 #[rcase D.c z'] sh) D.c Z=[0]:=by rw[Conc.offersAt_parked_recv];simp
        have ab:=Conc.crowd_send_meets (sl:=Q) (i:=D.k) (j:=0) hi ar F (Ne.symm f.k0) h0 (pD hL (.inr ⟨rfl,rfl⟩) f.k0 h0 D.c Z ap);have r2:=dW W1 D.c n a Z (s+1) (q+1) tm ac;rw[G]at r2;obtain⟨k1,S2⟩:=bq (W1.setChan D.c n a Z (s+1) (q+1) tm) rfl (λb hb=>aP _ _ _ _ _ _ _ _ hb) n [] (s+1) (q+1) r2;obtain⟨L2,eo⟩:=xd (a:=Ls++[v]) (b:=[]) (c:=H) (v:=v) (l:=vL::L') (by rw[a0];simp) (al▸k1);cases eo;have hv:v∈D.L:=k1.subset (by simp);have R2:=p.take f hv (W':=W1.setChan D.c n a Z (s+1) (q+1) tm) rfl (λb hb=>aP _ _ _ _ _ _ _ _ hb) ⟨a,F,G⟩ r2;have hu:∀op∈[({g:=D.k,fn:=s1.frame.fn,pos:=s1.frame.place,act:=.send D.c s}:MemOp),{g:=0,fn:=g1.frame.fn,pos:=g1.frame.place,act:=.recv D.c q n},{g:=D.k,fn:=s1.frame.fn,pos:=s1.frame.place,act:=.sendDone D.c s},{g:=0,fn:=g1.frame.fn,pos:=g1.frame.place,act:=.recvDone D.c q}],(op.g=0\/op.g=D.k)/\du W1.heap.size op.act:=λop B=>by
         simp at B;rcases B with rfl|rfl|rfl|rfl
         .exact ⟨.inr rfl,ac⟩
         .exact ⟨.inl rfl,ac⟩
         .exact ⟨.inr rfl,ac⟩
         .exact ⟨.inl rfl,ac⟩
        refine Fin.next (ad.trans ab) (hO _ _ Q _ qs ρ ρr ρs' (g1.finishComm P #[rcase D.c z'] sh 0 v Y) _ L' (Ls++[v]) [] (H++[v]) n (s+1) (q+1) tm 1 1 (.run R2 av af) (.run S2) r2 a9 (by rw[a0];simp) (by rw[al];simp) aa a3.set (by rw[sN f.k0];simp[bw]) (by simp[a4]) (hL.put (λop B=>?_) (by simp) (λj hj a5=>by rw[sN (λe=>a5 e.symm),sN (by omega)])) ?_)
        .rcases Array.mem_append.1 B with k|k
         .exact (a1 op k).2.2.1
         .exact (hu op (by simpa using k)).2.still
        .rw [<-Array.append_assoc,cI];exact PhT.ops aa _ _ a6 hu
       | @run h' _ V' _ R av af=>
        have ap:Conc.offersAt x0 D.c Z=[]:=Conc.offersAt_of_not_blocked (by rw[R.run];exactλh=>by cases h) _ _;have cd:=gY (i:=D.k) hL (.inr ⟨rfl,rfl⟩) h0 D.c Z ap;by_cases bo:a.size<n
        .have ab:=Conc.crowd_send_room (sl:=Q) (i:=D.k) hi ar F bo cd;have r2:=dW W1 D.c n (a.push v) Z (s+1) q tm ac;rw[Array.toList_push,G]at r2;obtain⟨k1,S2⟩:=bq (W1.setChan D.c n (a.push v) Z (s+1) q tm) rfl (λb hb=>aP _ _ _ _ _ _ _ _ hb) n (buf++[v]) (s+1) q r2;have R2:=R.other (W1:=W1.setChan D.c n (a.push v) Z (s+1) q tm) rfl (λb hb=>aP _ _ _ _ _ _ _ _ hb) ⟨a,F,G⟩ r2;have hu:∀op∈[({g:=D.k,fn:=s1.frame.fn,pos:=s1.frame.place,act:=.send D.c s}:MemOp),{g:=D.k,fn:=s1.frame.fn,pos:=s1.frame.place,act:=.sendDone D.c s}],(op.g=0\/op.g=D.k)/\du W1.heap.size op.act:=λop B=>by
          simp at B;rcases B with rfl|rfl<;>exact⟨.inr rfl,ac⟩
         refine Fin.next (ad.trans ab) (hO _ _ Q _ qs ρ ρr ρs' x0 _ L (Ls++[v]) (buf++[v]) H n (s+1) q tm 1 1 (.run R2 av af) (.run S2) r2 a9 (by rw[a0];simp) al aa a3.set (be _) (by simp[a4]) (lv _ _ (λop B=>(hu op (by simpa using B)).2)) ?_)
         rw[<-Array.append_assoc,cI];exact PhT.ops aa _ _ a6 hu
        .have bb:n<=a.size:=by omega
         have ab:=Conc.crowd_waits (sl:=Q) (i:=D.k) hi ar (λcc bn=>by
          simp at bn;subst bn;exact Conc.ways_send_none F bb cd)
         refine Fin.next (ad.trans ab) (hO _ W1 Q _ qs ρ ρr ρs' x0 _ L Ls buf H n s q tm 1 0 (.run R av af) (.park S1 rc lc (by rw[<-G,lY];exact bb)) ⟨a,F,G⟩ a9 a0 al aa a3 (be _) (by simp[a4]) ?_ a6)
         have:=lv (parked s1 #[scase D.c v z] .send) #[] (λop B=>by simp at B);rw[Array.append_empty]at this;exact this
       | @pre h' g' _ V' _ k R av af bd hy=>
        have ap:Conc.offersAt x0 D.c Z=[]:=Conc.offersAt_of_not_blocked (by rw[hy.status R.run];exactλh=>by cases h) _ _;have cd:=gY (i:=D.k) hL (.inr ⟨rfl,rfl⟩) h0 D.c Z ap;by_cases bo:a.size<n
        .have ab:=Conc.crowd_send_room (sl:=Q) (i:=D.k) hi ar F bo cd;have r2:=dW W1 D.c n (a.push v) Z (s+1) q tm ac;rw[Array.toList_push,G]at r2;obtain⟨k1,S2⟩:=bq (W1.setChan D.c n (a.push v) Z (s+1) q tm) rfl (λb hb=>aP _ _ _ _ _ _ _ _ hb) n (buf++[v]) (s+1) q r2;have R2:=R.other (W1:=W1.setChan D.c n (a.push v) Z (s+1) q tm) rfl (λb hb=>aP _ _ _ _ _ _ _ _ hb) ⟨a,F,G⟩ r2;have hu:∀op∈[({g:=D.k,fn:=s1.frame.fn,pos:=s1.frame.place,act:=.send D.c s}:MemOp),{g:=D.k,fn:=s1.frame.fn,pos:=s1.frame.place,act:=.sendDone D.c s}],(op.g=0\/op.g=D.k)/\du W1.heap.size op.act:=λop B=>by
          simp at B;rcases B with rfl|rfl<;>exact⟨.inr rfl,ac⟩
         refine Fin.next (ad.trans ab) (hO _ _ Q _ qs ρ ρr ρs' x0 _ L (Ls++[v]) (buf++[v]) H n (s+1) q tm (k+2) 1 (.pre k R2 av af bd (hy.rely (aP _ _ _ _ _ _ _ _ bd.2))) (.run S2) r2 a9 (by rw[a0];simp) al aa a3.set (be _) (by simp[a4]) (lv _ _ (λop B=>(hu op (by simpa using B)).2)) ?_)
         rw[<-Array.append_assoc,cI];exact PhT.ops aa _ _ a6 hu
        .have bb:n<=a.size:=by omega
         have ab:=Conc.crowd_waits (sl:=Q) (i:=D.k) hi ar (λcc bn=>by
          simp at bn;subst bn;exact Conc.ways_send_none F bb cd)
         refine Fin.next (ad.trans ab) (hO _ W1 Q _ qs ρ ρr ρs' x0 _ L Ls buf H n s q tm (k+2) 0 (.pre k R av af bd hy) (.park S1 rc lc (by rw[<-G,lY];exact bb)) ⟨a,F,G⟩ a9 a0 al aa a3 (be _) (by simp[a4]) ?_ a6)
         have:=lv (parked s1 #[scase D.c v z] .send) #[] (λop B=>by simp at B);rw[Array.append_empty]at this;exact this
      .have a1:=kw S'.sim m.ev D.k T.frame.fn T.frame.place;have ab:=ol (sl:=Q) (i:=D.k) hi (show stepG P (D.k==0) T (W.at d)=_ by rw[b3];exact hg) d6;exact Fin.next (ad.trans ab) (hO _ W1 Q _ qs ρ ρr ρs' x0 _ L Ls buf H n s q tm f1 1 RP1 (.run S') r1 a9 a0 al aa a3 (by rw[sN f.k0];exact h0) (by simp[a4]) (hL.put (λop B=>(a1 op B).2.2.1) (by simp) (λj hj a5=>sN (λe=>a5 e.symm))) (hP.symm.app m.le aa.symm bx a1).symm)
     .obtain ⟨a,F,G⟩:=r;have ac:D.c<W.heap.size:=(eS F).1;have d8:Ls=D.L:=by
       obtain⟨n0,b0,s0,q0,dt,k1,k2⟩:=S.row;rw[<-k2];exact(f.ts hs Vs eg _ _ _ _ _ _ k1).2
      have c6:buf=L:=by
       have:H++buf=H++L:=by rw[<-a0,<-al,d8]
       exact List.append_cancel_left this
      obtain⟨g',ej,en,hg,mQ,hQ⟩:=f.close hs Vs ρs T (W.at d) eg ((d8▸S).stays rfl (λ_ _ _ _=>rfl) rfl) n a s q tm F;have ab:=runT_crowd_go (P:=P) (sl:=Q) (i:=D.k) hi (show stepG P (D.k==0) T (W.at d)=_ by rw[b3];exact hg);have hw:∀o,woken P T g' (eA (W.at d) D.c n a s q tm) o=o.again (eA (W.at d) D.c n a s q tm):=λo=>by
       unfold Conc.woken;rw[ej,en];rfl
      have b8:kZ (eA (W.at d) D.c n a s q tm) D.c n L Y s q tm:=by
       have:=dW (W.at d) D.c n a Y s q tm ac;rw[G,c6]at this;exact this
      have d3:MemOp.ofEvents D.k T.frame.fn T.frame.place #[⟨.obj D.c,Z,Y⟩,⟨.obj D.c,Y,Y⟩]=#[{g:=D.k,fn:=T.frame.fn,pos:=T.frame.place,act:=.access ⟨.obj D.c,Z,Y⟩}]++#[{g:=D.k,fn:=T.frame.fn,pos:=T.frame.place,act:=.close D.c}]:=by rw[Conc.ofEvents_eq];simp[MemAct.ofEvent]
      rw[d3]at ab;have bs:∀op∈(#[{g:=D.k,fn:=T.frame.fn,pos:=T.frame.place,act:=.access ⟨.obj D.c,Z,Y⟩}]++#[{g:=D.k,fn:=T.frame.fn,pos:=T.frame.place,act:=.close D.c}]:Trace),op.act≠.mark .disable/\op.act≠.mark .enable:=λop B=>by
       simp at B;rcases B with rfl|rfl<;>exact⟨by simp,by simp⟩
      have a6:=(hP.symm.app (u:=#[{g:=D.k,fn:=T.frame.fn,pos:=T.frame.place,act:=.access ⟨.obj D.c,Z,Y⟩}]) (Ren.le_refl _) hF.symm (lR _) (λop B=>by
       simp at B;subst B;refine⟨rfl,ac,⟨by simp,by simp⟩,λx hx=>?_⟩;simp only[MemAct.touch?,oI]at hx;subst hx;exact⟨D.cs,S.pair,(λh=>by cases h),(λh=>by simp at h)⟩)).symm
      have em:=a6.close (y:={g:=D.k,fn:=T.frame.fn,pos:=T.frame.place,act:=.close D.c}) ⟨rfl,rfl⟩ ac;have b6:(eA (W.at d) D.c n a s q tm).heap.size=W.heap.size:=cI _ _ _ _ _ _ _ _;have ef:((gs.map (woken P T g' (eA (W.at d) D.c n a s q tm))).setIfInBounds D.k g').size=gs.size:=by simp
      have b1:Lv P (λ_=>False) (t++(#[{g:=D.k,fn:=T.frame.fn,pos:=T.frame.place,act:=.access ⟨.obj D.c,Z,Y⟩}]++#[{g:=D.k,fn:=T.frame.fn,pos:=T.frame.place,act:=.close D.c}])) ((gs.map (woken P T g' (eA (W.at d) D.c n a s q tm))).setIfInBounds D.k g') (upd qs D.k mQ):=by
       refine⟨λj y hj _ hy=>?_,λj hj=>?_⟩
       .rw [bK t j _ bs];by_cases a5:D.k=j
        .subst a5;rw[sS (by simpa using a4)]at hy;cases hy;rw[upd_same,hP.hq];exact hQ
        .rw [sN a5,Array.getElem?_map]at hy;obtain⟨z,hz,rfl⟩:=Option.map_eq_some_iff.1 hy;have hq:=hL.old j z hj (λe=>a5 e.symm) hz;rw[fN (jL hq _),upd_ne qs mQ (Ne.symm a5)];exact hq
       .rw [bK t j _ bs];exact hL.above j (by rw[ef]at hj;exact hj)
      have ar:((gs.map (woken P T g' (eA (W.at d) D.c n a s q tm))).setIfInBounds D.k g')[0]?=J (x0.again (eA (W.at d) D.c n a s q tm)):=by
       rw[sN f.k0,Array.getElem?_map,h0];simp only[Option.map_some,hw]
      obtain⟨pc,cb⟩:∃pc,PhC D.c pc ρs (eA (W.at d) D.c n a s q tm).heap.size (t++(#[{g:=D.k,fn:=T.frame.fn,pos:=T.frame.place,act:=.access ⟨.obj D.c,Z,Y⟩}]++#[{g:=D.k,fn:=T.frame.fn,pos:=T.frame.place,act:=.close D.c}])):=by
       rw[b6,<-Array.append_assoc];exact⟨_,em⟩
      have a7:∀b,b≠D.c->(eA (W.at d) D.c n a s q tm).heap[b]?=W.heap[b]?:=λb hb=>aP _ _ _ _ _ _ _ _ hb
      refine Fin.next (ad.trans ab) ?_
      cases RP with
      | @run h' _ V' _ R av af=>
       have c5:x0.again (eA (W.at d) D.c n a s q tm)=x0:=Conc.again_running _ (.inl R.run);rw[c5]at ar;exact bl _ _ Q _ _ ρ ρr ρs h' x0 V' L n s q tm _ (R.other rfl a7 ⟨a,F,G⟩ b8) av af (λv hv=>by rw[al];simp[hv]) b8 hF (hH.at d).out.shut (λy b k=>by rw[b6];exact(S.sim.lt k).2) ar b1 cb
      |park p hb _ _=>rw[hb]at c6;cases c6
      | @pre h' g1 _ V' _ k R av af bd hy=>
       have c5:x0.again (eA (W.at d) D.c n a s q tm)=x0:=Conc.again_running _ (.inl (hy.status R.run));rw[c5]at ar;exact yN bl av af (λv hv=>by rw[al];simp[hv]) hF bd.1 k _ _ Q _ _ x0 (R.other rfl a7 ⟨a,F,G⟩ b8) (hy.rely (a7 _ bd.2)) b8 (hH.at d).out.shut (λy b k=>by rw[b6];exact(S.sim.lt k).2) ar b1 cb
      | @last et d4 g1 h' hr'' V1' Vr1' V' Vr'' z' sh p hb af=>
       obtain⟨a2,c0,cm⟩:=b8;rw[Conc.again_recv_closed c0]at ar;exact vv f af (sumTo _ (upd qs D.k mQ)) _ _ Q _ _ (lR _) ⟨p.at1.other rfl a7 ⟨a,F,G⟩ ⟨a2,c0,cm⟩,p.sh,p.atc,p.rc,p.rcr⟩ ⟨a2,c0,cm⟩ (hH.at d).out.shut ar b1 cb
   .have dc:∀j o,(j=0\/j=D.k)->gs[j]?=J o->o.again (W.at d)=o:=λj o hj ho=>by
     rcases hj with rfl|rfl
     .rw [h0]at ho;cases ho;exact RP.again (w:=W.at d) r
     .rw [hk]at ho;cases ho;exact SP.again (w:=W.at d) r
    obtain⟨a8,q',ca,e1,e2,e3,e4,e5,e6,-⟩:=slip (K:=λi=>i=D.k) hL hP (λt i fn pos es hi hk h hm=>h.mute hi hk hm) hi hx (by omega) b9 dc ad;exact Fin.next e1 (ih _ (by omega) a8 (W.at d) Q (t++ca) q' ρ ρr ρs x0 T f1 f2 (RP.stays rfl (λ_ _ _ _=>rfl) (λ_ _ _ _=>rfl) rfl) (SP.stays rfl (λ_ _ _ _=>rfl) rfl) r hF (hH.at d) ((e3 0 (.inl rfl)).trans h0) ((e3 D.k (.inr rfl)).trans hk) e4 e5 (lR _))
theorem Ge(a:wW P D Post){hr:Wk}{Vr:Wj}(G:Dem P.alt D.Nr D.Tr hr Vr):∀hs Vs,Dem P.alt D.Ns D.Ts hs Vs->iO P D Post hr Vr hs Vs:=by
 induction G with
 | @stop g w z=>
  have k:=sE a (.stop (N:=D.Nr) z);have⟨h1,F,A⟩:=a.tr g w z;have y:∀c d,∃f Vr',LS P.alt g (w.on c d) f Vr':=λc d=>by
   have⟨_,_,_,_,_,h',V',e,l⟩:=A c d;exact⟨h',V',.comm e l⟩
  have B:∀c d f Vr',LS P.alt g (w.on c d) f Vr'->(∀hs Vs,Dem P.alt D.Ns D.Ts hs Vs->iO P D Post f Vr' hs Vs)\/((∀n b s q H,w.heap[D.cr]?=J (.chan n b Y s q H)->b.toList=[])/\∃h1 cc s V1 es,stepG P.alt Y g (w.on c d)=.comm h1 cc Y s V1 es):=λc d f Vr' _=>.inr ⟨F,by
   have⟨_,_,_,_,_,h',V',e,l⟩:=A c d;exact⟨_,_,_,_,_,e⟩⟩
  intro hs Vs t;induction t with
  |stop j=>exact nv a (.stop j) h1 y B k (.inr j)
  |step u r h m ih=>exact nv a (.step u r h m) h1 y B k (.inl ⟨a.ns _ _ u,λc d=>⟨h c d,λi Vs' l=>⟨m c d i Vs' l,ih c d i Vs' l⟩⟩⟩)
 | @step g w u z h m v=>
  have k:=sE a (.step u z h m);intro hs Vs t;induction t with
  |stop j=>exact nv a (.stop j) (a.nr g w u) h (λc d f Vr' l=>.inl (v c d f Vr' l)) k (.inr j)
  |step x r o p ih=>exact nv a (.step x r o p) (a.nr g w u) h (λc d f Vr' l=>.inl (v c d f Vr' l)) k (.inl ⟨a.ns _ _ x,λc d=>⟨o c d,λi Vs' l=>⟨p c d i Vs' l,ih c d i Vs' l⟩⟩⟩)
end
section
variable {P:Wv} [Two P] {X:List Wy×List Wy} {A:Nat->Prop} {G:FuncId->Bool} {g g':Wk} {w w':Wj}
theorem kn.grow(hZ:bU P)(hN:cq P)(hG:G Hx=Z){cs:Nat}(hA:A cs)(h:kn P X A G g w)(hl:LS P g w g' w'){n:Nat}{s q:Nat}{tm:Bool}(hr:w.heap[cs]?=J (.chan n b' cl s q tm)):
  ∃B m a D L j,w'.heap[cs]?=J (.chan B m a D L j)/\((b'.toList <+:m.toList/\(cl=Y->a=Y))\/a=Y):=by
 obtain⟨⟨hrn,ρ,k,u,t,S,hI,hE,ho,hwi,⟨ad,Q,V⟩,hold,ac⟩,hb⟩:=h;have ab:Base X g.frame k.callers:=λe=>hb (t.callers.tail e)
 have sf:=jl hZ hE hN hI Y t ab (S.onR w.tape w.drawn) (λi=>rfl);have⟨b0,aa⟩:=Q cs hA;have x:∀ {ρ':Ren} {v v':Wj},Reach ρ ρ' w (u.on w.tape w.drawn) v v'->∃B m a D L j,v.heap[cs]?=J (.chan B m a D L j)/\((b'.toList <+:m.toList/\(cl=Y->a=Y))\/a=Y):=λR=>by
  rcases R.chs.row cs b0 (by rw[ad];exact hA) aa with⟨e,-⟩|⟨-,B,m,D,L,j,e⟩
  .exact ⟨_,_,_,_,_,_,e.trans hr,.inl ⟨List.prefix_refl _,λh=>h⟩⟩
  .exact ⟨_,_,_,_,_,_,e,.inr rfl⟩
 rcases sf.rel with⟨h1,-⟩|⟨-,l⟩|⟨f,_,_,_,_,_,_,_,_,_,_,_,A⟩
 rotate_left 2
 .exact absurd A.mark (ac f)
 .cases hl with
  |go h hr hd=>
   rw[h]at h1;obtain⟨⟨d,f,e,-⟩,-⟩:=h1;rw[hd]at e;cases e
  |comm h _=>rw[h]at h1;exact h1.elim
 .cases hl with
  |go h hr hd=>
   rw[h]at l;generalize stepG P Y k (u.on w.tape w.drawn)=y at l;cases l with
   |go es ρ' R hg he=>exact x R
  | @comm g1 c s1 w1 es _ _ h hc=>
   rw[h]at l;generalize stepG P Y k (u.on w.tape w.drawn)=y at l;cases l with
   | @comm _ k1 _ c' hC _ hs hrun _ u1 _ es' ρ' R hg hcc he _=>
    have o:c.send≠none:=λe=>by have:=hC.2 e;rw[V,hG]at this;cases this
    have⟨n1,b1,cl1,s1',F,tm1,H,e2⟩:=x R;cases hc with
    |recv F z p q4=>exact absurd z o
    |shut F z p=>exact absurd z o
    |dead F z p=>exact⟨_,_,_,_,_,_,H,e2⟩
    | @send r cap sent rcvd buf tm0 v0 F z p q4=>
     by_cases e:r=cs
     .subst e;rw[H]at p;cases p;have T:=(eS H).1;refine⟨_,_,_,_,_,_,sS T,?_⟩;rcases e2 with⟨k1,k2⟩|k
      .exact .inl ⟨k1.trans (by rw[Array.toList_push];exact List.prefix_append _ _),k2⟩
      .cases k
     .exact ⟨_,_,_,_,_,_,by simp only[sN e];exact H,e2⟩
end
theorem iP{b:Type}{p c:b->Bool}(d:∀a,p a=Y->c a=Y){l:Array b}(h:l.all p=Y):l.all c=true:=by
 rw[Array.all_eq_true]at h ⊢;exactλi e=>d _ (h i e)
section
variable {P:Wv} {F F':FuncId->Bool} (hF:∀f,F f=true->F' f=true)
include hF
theorem lA{x:Operand}(h:okX P F x=Y):okX P F' x=true:=by
 cases x with
 |func f=>exact hF f h
 |_=>exact h
theorem xh{b:Builtin}(h:Dr F b=Y):Dr F' b=true:=by
 unfold Dr at h ⊢;rw[Bool.or_eq_true]at h ⊢;refine h.imp id (λh=>?_);cases b<;>first|exact hF _ h|exact h
theorem lB{c:Call}(h:ke P F c=Y):ke P F' c=true:=by
 unfold ke at h ⊢;rw[bT]at h ⊢;refine⟨?_,iP (λ_=>lA hF) h.2⟩;have h1:=h.1;cases d:c.callee with
 |builtin b=>rw[d]at h1;simp only[bT]at h1 ⊢;exact⟨xh hF h1.1,h1.2⟩
 |value f=>rw[d]at h1;exact lA hF h1
 |invoke a b=>rw[d]at h1;exact h1
theorem vw{c:Call}(h:lm P F c=Y):lm P F' c=true:=by
 unfold lm at h ⊢;rw[Bool.or_eq_true,bT]at h ⊢;refine h.imp (lB hF) (λh=>⟨?_,iP (λ_=>lA hF) h.2⟩);have h1:=h.1;split at h1
 .rw [bT]at h1 ⊢;exact⟨hF _ h1.1,h1.2⟩
 .cases h1
theorem xi{o:Op}(h:gm P F o=Y):gm P F' o=true:=by
 have e:∀ {x:Operand},okX P F x=Y->okX P F' x=true:=λh=>lA hF h
 have j:∀ {x:Option Operand},x.all (okX P F)=Y->x.all (okX P F')=true:=fun{x} h=>by
  cases x with
  |none=>rfl
  |some x=>exact e h
 cases o with
 |makeFunc f a c=>
  cases f with
  |func f=>
   simp only[gm,bT]at h ⊢;exact⟨⟨hF _ h.1.1,iP (λ_=>e) h.1.2⟩,iP (λ_=>e) h.2⟩
  |_=>exact h
 |makeMap t r=>cases r<;>exact h
 |call c=>exact vw hF h
 |defer c=>simp only[gm,bT,Bool.or_eq_true]at h ⊢;exact⟨h.1.imp (hF _) (hF _),lB hF h.2⟩
 |go c=>simp only[gm,bT]at h ⊢;exact⟨hF _ h.1,lB hF h.2⟩
 |slice t x lo hi mx=>simp only[gm,bT]at h ⊢;exact⟨⟨⟨e h.1.1.1,j h.1.1.2⟩,j h.1.2⟩,j h.2⟩
 |build t l=>exact iP (λ_=>e) h
 |buildSlice t n l=>exact iP (λ_=>e) h
 |recv t x b=>simp only[gm,bT]at h ⊢;exact⟨hF _ h.1,e h.2⟩
 |makeChan t x=>simp only[gm,bT]at h ⊢;exact⟨hF _ h.1,e h.2⟩
 |send a x=>simp only[gm,bT]at h ⊢;exact⟨⟨hF _ h.1.1,e h.1.2⟩,e h.2⟩
 |pick a b c=>simp only[gm,bT]at h ⊢;exact⟨⟨e h.1.1,e h.1.2⟩,e h.2⟩
 |binOp op t a x r=>simp only[gm,bT]at h ⊢;exact⟨⟨e h.1.1,e h.1.2⟩,h.2⟩
 |store t a x=>simp only[gm,bT]at h ⊢;exact⟨e h.1,e h.2⟩
 |makeSlice t a x=>simp only[gm,bT]at h ⊢;exact⟨e h.1,e h.2⟩
 |indexAddr t a x=>simp only[gm,bT]at h ⊢;exact⟨e h.1,e h.2⟩
 |index t a x=>simp only[gm,bT]at h ⊢;exact⟨e h.1,e h.2⟩
 |convert s d x=>simp only[gm,bT]at h ⊢;exact⟨h.1,e h.2⟩
 |lookup t x i b=>simp only[gm,bT]at h ⊢;exact⟨⟨h.1.1,e h.1.2⟩,e h.2⟩
 |mapUpdate t m k x=>simp only[gm,bT]at h ⊢;exact⟨⟨⟨h.1.1.1,e h.1.1.2⟩,e h.1.2⟩,e h.2⟩
 |_=>first|exact e h|exact h
theorem fj:∀ {c:Code},aI P F c=Y->aI P F' c=true:=by
 intro c;induction c with
 |region id ops d=>intro h;exact iP (λ_=>xi hF) h
 |seq a b e i=>intro h;simp only[aI,bT]at h ⊢;exact⟨e h.1,i h.2⟩
 |cond c a b e i=>intro h;simp only[aI,bT]at h ⊢;exact⟨⟨lA hF h.1.1,e h.1.2⟩,i h.2⟩
 |block id a ih=>intro h;exact ih h
 |loop a ih=>intro h;exact ih h
 |scope a ih=>intro h;exact ih h
 |rangeFunc f ps a b e i=>intro h;simp only[aI,bT]at h ⊢;exact⟨⟨lA hF h.1.1,e h.1.2⟩,i h.2⟩
 |_=>intro h;exact h
end
structure Ren.sub' (ρ ρ':Ren):Prop where
 rel:∀a b,ρ a b->ρ' a b
 prog:ρ'.prog=ρ.prog
 F:∀f,ρ.F f=Y->ρ'.F f=Y
 bad:ρ'.bad=ρ.bad
section
variable {ρ ρ':Ren} (l:ρ.sub' ρ')
include l
theorem RA.re{a a':Wu}(h:RA ρ a a'):RA ρ' a a':=⟨l.rel _ _ h.1,h.2⟩
theorem RAo.re{a a':Option Wu}(h:RAo ρ a a'):RAo ρ' a a':=by
 cases h with
 |none=>exact .none
 |some h=>exact .some (RA.re l h)
theorem RNo.re{a a':Option Nat}(h:RNo ρ a a'):RNo ρ' a a':=by
 cases h with
 |none=>exact .none
 |some h=>exact .some (l.rel _ _ h)
theorem RFn.re{a a':Fn}(h:RFn ρ a a'):RFn ρ' a a':=by
 cases h with
 |func f h=>exact .func f (l.F _ h)
 |yield h=>exact .yield (l.rel _ _ h)
theorem RV.re{v v':Wx}(h:RV ρ v v'):RV ρ' v v':=by
 induction h with
 |bool b=>exact .bool b
 |int k n=>exact .int k n
 |string s=>exact .string s
 |pointer h=>exact .pointer (RAo.re l h)
 |slice n c h=>exact .slice n c (RAo.re l h)
 |map h=>exact .map (RNo.re l h)
 |chan h=>exact .chan (RNo.re l h)
 |func i j d _ _ e f=>exact .func (RFn.re l i) j d e f
 |nilFunc=>exact .nilFunc
 |iface t _ ih=>exact .iface t ih
 |nilIface=>exact .nilIface
 |agg d _ ih=>exact .agg d ih
 |tuple d _ ih=>exact .tuple d ih
 |dead v' h=>exact .dead v' h
 |odd n s a c m=>exact .odd n s a c (m.trans l.bad.symm)
theorem RVs.re{c:Array Wx}(h:RVs ρ c c'):RVs ρ' c c':=⟨h.size,λi v a h1 b=>RV.re l (h.at_ i v a h1 b)⟩
theorem RT.re{a a':Target}(h:RT ρ a a'):RT ρ' a a':=by
 cases h with
 |fn d e=>exact .fn (RFn.re l d) (RVs.re l e)
 |nil=>exact .nil
 |builtin b f a c t cs=>exact .builtin b (xh l.F f) a (by rw[l.prog];exact c) t cs
 |collected h=>exact .collected (l.rel _ _ h)
theorem RD.re{df a':Deferred}(h:RD ρ df a'):RD ρ' df a':=by
 cases h with
 |mk h1 b=>exact .mk (RT.re l h1) (RVs.re l b)
 |odd n v df s c a' d=>exact .odd n v df s c a' (d.trans l.bad.symm)
theorem RDs.re{a a':List Deferred}(h:RDs ρ a a'):RDs ρ' a a':=by
 induction h with
 |nil=>exact .nil
 |cons h _ b ih=>exact .cons (RD.re l h) ih (b.imp id (λk=>by
  rw[Bool.or_eq_true]at k ⊢;exact k.imp (l.F _) (l.F _)))
theorem RL.re{a a':Loop}(h:RL ρ a a'):RL ρ' a a':=⟨h.state,h.pending,h.fn,RVs.re l h.tmps,h.params,h.assign,h.body,l.rel _ _ h.defers,by rw[l.prog];exact fj l.F h.okA,by rw[l.prog];exact fj l.F h.okBo,λc e=>by rw[l.prog];exact fj l.F (h.okP c e)⟩
theorem RMs.re{a a':List MapEntry}(h:RMs ρ a a'):RMs ρ' a a':=by
 induction h with
 |nil=>exact .nil
 |cons b c h _ ih=>exact .cons b (RV.re l c) (RV.re l h) ih
theorem RO.re(f:ρ'.F my=ρ.F my){a a':Obj}(h:RO ρ a a')(d:a.isChan=Y->RO ρ' a a'):RO ρ' a a':=by
 cases h with
 |cells e i h=>exact .cells e (by rw[f];exact i) (RVs.re l h)
 |chan=>exact d rfl
 |map c h=>exact .map c (RMs.re l h)
 |stringIter s n=>exact .stringIter s n
 |loop h=>exact .loop (RL.re l h)
 |deferred h=>exact .deferred (RDs.re l h)
 |taken=>exact .taken
 |number b h=>exact .number b (RA.re l h)
 |dead _ h=>exact .dead _ h
variable {P:Wv}
theorem RI.re{i i':Item}(h:RI P ρ i i'):RI P ρ' i i':=by
 cases h with
 |code h=>exact .code (fj l.F h)
 |inBlock id=>exact .inBlock id
 |inLoop h=>exact .inLoop (fj l.F h)
 |inScope h=>exact .inScope (fj l.F h)
 |inRegion k h=>exact .inRegion k (iP (λ_=>xi l.F) h)
 |regionEnd a b=>exact .regionEnd a b
 |inRangeFunc h=>exact .inRangeFunc (l.rel _ _ h)
 |endRangeFunc h=>exact .endRangeFunc (l.rel _ _ h)
 |beginRound=>exact .beginRound
theorem RIs.re{k k':List Item}(h:RIs P ρ k k'):RIs P ρ' k k':=by
 induction h with
 |nil=>exact .nil
 |cons h _ ih=>exact .cons (RI.re l h) ih
theorem RPn.re{k k':List PanicEntry}(h:RPn ρ k k'):RPn ρ' k k':=by
 induction h with
 |nil=>exact .nil
 |cons r g h _ ih=>exact .cons r g (RV.re l h) ih
theorem RM.re{m m':FrameMode}(h:RM ρ m m'):RM ρ' m m':=by
 cases h with
 |run=>exact .run
 |returning=>exact .returning
 |panicking h=>exact .panicking (RPn.re l h)
theorem RFr.re{f f':Wy}(h:RFr P ρ f f'):RFr P ρ' f f':=⟨h.fn,RVs.re l h.tmps,RIs.re l h.todo,RDs.re l h.defers,RM.re l h.mode,h.early,RNo.re l h.round⟩
theorem RFs.re{X a:List Wy×List Wy}(f:RFs P ρ' a X.1 X.2)(c:2<=X.1.length)(hne:a.2.length<X.2.length){k:List Wy}(h:RFs P ρ X k k'):RFs P ρ' a k k':=by
 induction h with
 |base=>exact f
 |cons h d b ih=>
  refine .cons (RFr.re l h) ⟨λ_=>d.1 (.inr c),λe=>?_⟩ ih;have:=b.len;rw[e]at this;omega
theorem RGo.re{X a:List Wy×List Wy}(d:RFs P ρ' a X.1 X.2)(c:2<=X.1.length)(b:a.2.length<X.2.length){g g':Wk}(h:RGo P ρ X g g'):RGo P ρ' a g g':=by
 refine⟨RFr.re l h.frame,RFs.re l d c b h.callers,⟨λ_=>h.kind.1 (.inr c),λe=>?_⟩,h.status,h.dying,h.offers⟩;have:=h.callers.len;rw[e]at this;omega
end
section
open Go.Conc (crowd Past EvL Deaf QuitsD)
variable {P:Wv} [Two P]
def Ren.back(ρ ρ0:Ren):Ren where
 rel:=ρ.rel
 fn:=ρ.fn
 inj:=ρ.inj
 prog:=ρ.prog
 F:=ρ0.F
 old:=λ_=>False
 ch:=λ_=>False
 loose:=Z
 wide:=Z
 tight:=λ_=>rfl
 pin:=ρ.pin
 bad:=ρ.bad
 noM:=ρ.noM
theorem A5{D:PhD P}{Post:Wx->Wj->Prop}{ρ0:Ren}(y:∀a b,ρ0 a b->D.R0 a b)(j:GId P ρ0)(hE:fY P ρ0.F)(hS:ρ0.F gq=Z)(aa:ρ0.F mz=Z)(hF:∀f,D.Fp f=Y->ρ0.F f=Y)(G:ρ0.F my=D.Fp my)(ab:ρ0.bad=D.U.bad)(hX:RFs P ρ0 ([trap P.alt],[]) D.X.1 D.X.2)(h2:2<=D.X.1.length)(h3:0<D.X.2.length)
  (l:∀h V,LSs P.alt D.T D.h0 D.V0 h V->pB P D.U ρ0.F [] Post h V):
  ∀ρ h g V W n s q tm gs sl t qs,Side P D.X ρ h g V W D.cV D.c []->A4 D ρ V W->Kp D.U W/\Off D.U ρ->W.heap[D.c]?=J (.chan n #[] Y s q tm)->LSs P.alt D.T D.h0 D.V0 h V->gs[0]?=J g->Lv P (λ_=>False) t gs qs->Past iy W.heap.size t->Fin P Post gs W sl t:=by
 intro ρ h g V W n s q tm gs sl t qs S d hU A hp h0 hL hP;have m:ρ0.prog=ρ.prog:=j.prog.trans S.gid.prog.symm;have l0:ρ0.sub' (ρ.back ρ0):=⟨λa b k=>d.base.1 a b (y a b k),m.symm,λf k=>k,hU.2.2.2.2.trans ab.symm⟩;have l1:ρ.sub' (ρ.back ρ0):=⟨λa b k=>k,rfl,λf k=>hF f (by rw[<-d.base.2];exact k),rfl⟩;have L:RFs P (ρ.back ρ0) ([trap P.alt],[]) D.X.1 D.X.2:=by
  have R:∀ {k k':List Wy},RFs P ρ0 ([trap P.alt],[]) k k'->RFs P (ρ.back ρ0) ([trap P.alt],[]) k k':=λh=>by
   induction h with
   |base=>exact .base
   |cons h hk _ ih=>exact .cons (RFr.re l0 h) hk ih
  exact R hX
 refine l h V hp gs g W sl t qs (ρ.back ρ0) h0 hL hP ⟨RGo.re l1 L h2 h3 S.go,⟨λa b e=>?_,λa k=>k.elim,λc k=>k.elim,S.sim.os,λv a c0 hp=>S.sim.pin (by rw[d.base.2,<-G];exact v) a c0 hp⟩,⟨λg hg=>d.base.1 _ _ (y _ _ (j.glob g hg)),S.gid.prog,j.code,j.alt,λ_ _ k=>k,j.same,j.size,j.apart⟩,hE,hS,rfl,⟨rfl,rfl⟩,⟨aa,λa b o e z hc=>?_⟩,hU⟩
 rotate_left
 .by_cases B:a=D.cV
  .subst B;have⟨n1,H,s1,Q,p,i,r⟩:=S.row;rw[i]at z;cases z;have v:H=#[]:=Array.toList_inj.1 (by simpa using r);subst v;exact⟨_,_,_,_,rfl⟩
  .have ⟨n1,s1,Q,p,n2,s2,q2,i,r⟩:=d.rest a b (d.all a b o e z hc) e B;rw[i]at z;cases z;exact⟨_,_,_,_,rfl⟩
 have⟨o,o',u,x,e3⟩:=S.sim.obj a b e;refine⟨o,o',u,x,RO.re l1 (by rw[d.base.2];exact G) e3 (λhc=>?_)⟩;by_cases B:a=D.cV
 .subst B;obtain rfl:b=D.c:=ρ.fn _ _ _ e S.pair;have⟨n1,H,s1,Q,p,i,r⟩:=S.row;rw[i]at u;cases u;rw[A]at x;cases x;have v:H=#[]:=Array.toList_inj.1 (by simpa using r);subst v;cases e3;exact .chan _ _ _ _ _ _ _ _ _ (.inr RVs.nil) (.inr rfl)
 .have ⟨n1,s1,Q,p,n2,s2,q2,i,r⟩:=d.rest a b (d.all a b o e u hc) e B;rw[i]at u;cases u;rw[r]at x;cases x;exact .chan _ _ _ _ _ _ _ _ _ (.inr RVs.nil) (.inr rfl)
end
section
open Go.Conc (crowd Past EvL Deaf QuitsD)
def dZ(P:Wv):Wy:={(default:Wy)with fn:=P.funcs.size,defers:=[],mode:=.panicking [goexitEntry]}
section
variable {P:Wv}
theorem vy(w:Wj):stepG P Z {frame:=dZ P,callers:=[],status:=.running,dying:=N} w=.go {frame:=dZ P,callers:=[],status:=.finished,dying:=N} w #[]:=by
 have a:(dZ P).catches P=false:=by
  have e:(dZ P).todo=[]:=rfl;unfold Frame.catches;rw[e];cases P.funcs[(dZ P).fn]?<;>rfl
 have e:stepG P Z {frame:=dZ P,callers:=[],status:=.running,dying:=N} w=unwind P Z (dZ P) [] N w:=rfl;rw[e];unfold unwind;simp only[a];rfl
theorem yO{fr:Wy}{fn:Func}(d:P.funcs[fr.fn]?=J fn)(hr:fn.results=#[])(c:fr.mode=.returning)(b:fr.defers=[])(w:Wj):stepG P Z {frame:=fr,callers:=[dZ P],status:=.running,dying:=N} w=.go {frame:=dZ P,callers:=[],status:=.running,dying:=N} w #[]:=by
 have e:(results fn fr.tmps).runT P w #[]=(.ok (.tuple #[]) w,#[]):=by
  unfold results;rw[hr,Array.mapM_eq_mapM_toList];rfl
 have f:doReturn P Z fr [dZ P] N (.tuple #[]) w=.go {frame:=dZ P,callers:=[],status:=.running,dying:=N} w #[]:=by
  unfold doReturn;cases h:fr.kind<;>rfl
 simp only[stepG,c,unwind,b,d,e,f,fM,cG]
theorem yP{fr:Wy}{fn:Func}(c:P.funcs[fr.fn]?=J fn)(hr:fn.results=#[])(b:fr.mode=.returning)(a:fr.defers=[]):QuitsD P 2 0 {frame:=fr,callers:=[dZ P],status:=.running,dying:=N}:=
 .inr ⟨rfl,_,#[],by simp,yO c hr b a,.inr ⟨rfl,_,#[],by simp,vy,rfl,rfl⟩⟩
theorem sF{c n s q:Nat}{tm:Bool}{W:Wj}(at_:Array TypeId)(t:TypeId)(cs:Array Bool)(h:W.heap[c]?=J (.chan n c' Z s q tm)):(invoke (.builtin .close at_ t cs) #[.chan (J c)]).runT P W #[]=(.ok (.value (.tuple #[])) (eA W c n c' s q tm),#[⟨.obj c,Z,Y⟩,⟨.obj c,Y,Y⟩]):=by
 show Sem.runT P (Sem.getObj c _) W #[]=_;simp only[Sem.runT,h];show Sem.runT P (Sem.setObj c (.chan n c' Y s q tm) _) W _=_;simp only[Sem.runT,h];rfl
variable [Two P]
def Gg(P:Wv) [Two P](f:FuncId)(cs:Nat)(h:Wk):Prop:=
 h.callers=[trap P.alt]/\h.frame.fn=f/\h.frame.mode=.returning/\∃at_ t k,h.frame.defers=[{target:=.builtin .close at_ t k,args:=#[.chan (J cs)]}]
theorem DQ{f:FuncId}{fn:Func}(z:P.funcs[f]?=J fn)(e:fn.results=#[]){ρ:Ren}{h g:Wk}{V W:Wj}{cs c:Nat}{L:List Wx}(S:Snd P ([trap P.alt],[dZ P]) ρ h g V W cs c L)(hA:Gg P f cs h){n:Nat}{s q:Nat}(o:W.heap[c]?=J (.chan n c' Z s q H)):
  ∃g',mayWake P g=Y/\g'.status=.running/\stepG P Z g W=.go g' (eA W c n c' s q H) #[⟨.obj c,Z,Y⟩,⟨.obj c,Y,Y⟩]/\∃m,QuitsD P m 0 g':=by
 obtain⟨h1,T,h3,at_,t,k,h4⟩:=hA;have i:g.callers=[dZ P]:=by
  have a:=S.go.callers;rw[h1]at a;generalize G:(([trap P.alt],[dZ P]):List Wy×List Wy)=X at a;generalize v:[trap P.alt]=l at a;generalize g.callers=l' at a ⊢;cases a with
  |base=>rw[<-G]
  |cons _ _ a=>
   cases v;have:=a.len1;rw[<-G]at this;simp at this
 have r:g.frame.mode=.returning:=by
  have:=S.go.frame.mode;rw[h3]at this;generalize g.frame.mode=x at this;cases this;rfl
 have p:g.frame.defers=[{target:=.builtin .close at_ t k,args:=#[.chan (J c)]}]:=by
  have:=S.go.frame.defers;rw[h4]at this;generalize g.frame.defers=x at this;cases this with
  | @cons _ d' _ _ p a _=>
   cases a;obtain⟨tg,R⟩:=d';obtain⟨F,A⟩:=p;simp only at F A;cases F;have D:=A.size;obtain⟨l⟩:=R;rcases l with - |⟨x,- |⟨y,l⟩⟩<;>simp at D
   have:=A.at_ 0 _ x rfl rfl;cases this with
   |chan B=>
    cases B with
    |some B=>rw[ρ.fn _ _ _ B S.pair]
 have d:P.funcs[g.frame.fn]?=J fn:=by rw[<-S.go.frame.fn,T];exact z
 have j:seen P g.frame.fn #[⟨.obj c,Z,Y⟩,⟨.obj c,Y,Y⟩]=#[⟨.obj c,Z,Y⟩,⟨.obj c,Y,Y⟩]:=by unfold seen;simp
 obtain⟨Q,cl,st,dy,of⟩:=g;simp only at i r p d j;subst i;have u:dy=none:=S.go.dying.2;subst u;refine⟨{frame:={Q with defers:=[]},callers:=[dZ P],status:=.running,dying:=N},?_,rfl,?_,2,yP (fr:={Q with defers:=[]}) d e r rfl⟩
 .simp only[mayWake,r]
 .simp only[stepG,r,unwind,p];unfold callDeferred;simp only[sF at_ t k o];simp[j,GStep.after]
end
end
section
variable {P:Wv} [Two P]
theorem Gh{b:Outer}{G:FuncId->Bool}{Post:Wx->Wj->Prop}{f page:FuncId}{R:(Nat->Question->Nat)->Nat->Ending->Wj->Prop}(H:G page=Z)(L:P.inits.idxOf? f=N)
  (hR:∀τ d e u,R τ d e u->e=.returned (C Y)\/∃t a c r x l,e=.panicked ({v:=.iface t (.func (.func page) a c),recovered:=r,goexit:=x} :: l))
  (Q:∀h V ρ g W ρ' W',Ends P.alt f R h V->h.frame.mode=.returning->Rel P b G [] ρ h g V W->ρ.le ρ'->bN ρ' V W'->Kp b W'->Post (C Y) W'):Leaf P b G (Ends P.alt f R) Post:=by
 intro h g V W ρ hT m d;have a1:=hT;obtain⟨τ,d0,o,q,e,z,hr,rfl,a4,ad,-⟩:=hT;have ab:g.callers=[]:=RFs.nil_of m.go.callers;obtain⟨s,gc,gst,gd,go⟩:=g;simp only at ab;subst ab;obtain rfl:gd=none:=m.go.dying.2;have p:=m.go.frame;simp only at p;rcases hR _ _ _ _ hr with rfl|⟨t,a,c,r,x,l,rfl⟩
 .obtain ⟨hm,hd,hk,fn,F,B⟩:=ad;have al:s.mode=.returning:=by
   have:=p.mode;rw[hm]at this;generalize s.mode=y at this;cases this;rfl
  have a5:s.defers=[]:=by
   have:=p.defers;rw[hd]at this;generalize s.defers=y at this;cases this;rfl
  obtain⟨n,ac⟩:∃n,P.funcs[z.fn]?=J n:=by
   cases hx:P.funcs[z.fn]? with
   |some y=>exact⟨y,rfl⟩
   |none=>rw[(lw m.gid z.fn).2 hx]at F;cases F
  rw[od m.gid F ac z.tmps]at B;have hS:bN ρ (V.on o q) (W.at d):=⟨m.sim.obj,m.sim.fix,m.sim.chan,m.sim.os,m.sim.pin⟩;have X:RS P QV ρ (results n z.tmps) (results n s.tmps):=pz n p.tmps;have D:((results n z.tmps).runT P.alt (V.on o q) #[]).1=.ok (C Y) (V.on o q):=by rw[Sem.runT_fst];exact B
  obtain⟨m1,o1⟩:=qx X (V.on o q) ((W.at d).on o q) #[] #[] ⟨m.sim.obj,m.sim.fix,m.sim.chan,m.sim.os,m.sim.pin⟩ (λi _=>rfl);have ar:(results n z.tmps).runT P (V.on o q) #[]=(results n z.tmps).runT P.alt (V.on o q) #[]:=by
   rcases o1 with⟨-,x,u,k,-⟩|⟨k,-⟩
   .rw [D]at k;cases k
   .exact k.symm
  have aa:((results n z.tmps).runT P (V.on W.tape d) #[]).1=.ok (C Y) (V.on W.tape d):=by
   have m3:=m1.2.2;have hw:((results n z.tmps).runT P (V.on o q) #[]).1=.ok (C Y) (V.on o q):=by rw[ar];exact D
   have:=m3 W.tape d (λi hi=>by rw[hw]at hi;simp only[Result.w]at hi;omega);rw[AZ]at this;rw[this];show Result.on W.tape d q ((results n z.tmps).runT P (V.on o q) #[]).1=_;rw[hw];show Result.ok _ ((V.on o q).on W.tape (d+(q-q)))=_;rw[Nat.sub_self,Nat.add_zero,AZ]
  obtain⟨-,o2⟩:=qx X (V.on W.tape d) (W.at d) #[] #[] ⟨m.sim.obj,m.sim.fix,m.sim.chan,m.sim.os,m.sim.pin⟩ (λi _=>rfl);rcases o2 with⟨⟨x,u,k,-⟩,-⟩|⟨-,ρ',le,S',A,K,-,-,j,-,-⟩
  .rw [aa]at k;cases k
  rw[aa]at A S';generalize a3:(results n s.tmps).runT P (W.at d) #[]=cr at A S' K j;obtain⟨r2,es⟩:=cr;simp only at A S' K j;cases A with
  | @ok _ v' _ W' S=>
   have S:RV ρ' (C Y) v':=S;cases S;obtain⟨E0,ap,a2⟩:=j;refine⟨C Y,seen P s.fn es,ρ',V.on W.tape d,W',?_,Q _ V ρ _ W ρ' W' a1 hm m le ⟨S'.obj,S'.fix,S'.chan,S'.os,S'.pin⟩ (m.out.1.keep m.out.2 ⟨K.os,K.output,K.tape,K.size,K.block⟩),S',K.size,λe he=>a2 e (by have:=ec he;rw[ap]at this;simpa using this)⟩;have af:P.funcs[s.fn]?=J n:=by rw[<-p.fn];exact ac
   have a0:P.inits.idxOf? s.fn=none:=by rw[<-p.fn,a4];exact L
   have T:doReturn P Y s [] N (C Y) W'=.ended (.done (C Y)) W':=by
    unfold doReturn;have:=p.early.2.2;cases av:s.kind with
    |report=>exact absurd av this
    |_=>simp[a0]
   simp only[stepG,al,unwind,a5,af,a3,T];simp[GStep.after]
 .obtain ⟨hm,-⟩:=ad;exfalso;have:=p.mode;rw[hm]at this;generalize s.mode=y at this;cases this with
  |panicking hp=>
   cases hp with
   |cons _ _ S _=>
    cases S with
    |iface _ S=>
     cases S with
     |func hf _ _ _ _=>
      cases hf with
      |func _ hF=>rw[m.same,H]at hF;cases hF
end
section
open Go.Conc (crowd Past EvL Deaf QuitsD woken awake crowd_pick runT_crowd_go)
open Go.ConcN (sumTo upd sumTo_upd upd_ne upd_same)
variable {P:Wv} {Post:Wx->Wj->Prop}
theorem iQ(W:Wj)(a b:Nat):(W.at a).at b=W.at b:=rfl
theorem A6{g g' ad:Wk}{W:Wj}(hr:g.status=.running)(h:∀d,stepG P Y g (W.at d)=.spawn g' ad (W.at d) #[]){ρr ρs:Ren}
  (n:∀ (gs:Array Wk) (sl:Option (Nat×Nat)) (t:Trace) (q:Nat->Nat) (d k:Nat),k≠0->gs[0]?=J g'->gs[k]?=J ad->Lv P (λi=>i=k) t gs q->PhT 0 k ρr ρs W.heap.size t->Fin P Post gs (W.at d) sl t):
  ∀ (gs:Array Wk) (sl:Option (Nat×Nat)) (t:Trace) (q:Nat->Nat) (d:Nat),gs[0]?=J g->Lv P (λ_=>False) t gs q->Past iy W.heap.size t->Fin P Post gs (W.at d) sl t:=by
 intro gs sl t q d l u R;obtain⟨a,hM⟩:∃a,sumTo gs.size q<=a:=⟨_,lR _⟩;induction a using Nat.strongRecOn generalizing gs sl t q d with
 |_ a H=>
  have⟨i,x,m,f,v,T,e⟩:=crowd_pick (P:=P) (w:=W.at d) (sl:=sl) (iM u l hr) ⟨0,g,l,hr⟩;rw[iQ]at e;have z:0<gs.size:=(eS l).1;rcases Nat.eq_zero_or_pos i with rfl|s
  .obtain rfl:x=g:=by rw[l]at v;exact(oJ v).symm
   have r:=Conc.runT_crowd_spawn (P:=P) (sl:=f) (i:=0) v (show stepG P (0==0) x (W.at m)=_ from h m);have o:((MemOp.ofEvents 0 x.frame.fn x.frame.place #[]).push {g:=0,fn:=x.frame.fn,pos:=x.frame.place,act:=.go gs.size} |>.push {g:=gs.size,fn:=ad.frame.fn,pos:=x.frame.place,act:=.start})=#[{g:=0,fn:=x.frame.fn,pos:=x.frame.place,act:=.go gs.size},{g:=gs.size,fn:=ad.frame.fn,pos:=x.frame.place,act:=.start}]:=rfl;rw[o]at r;have c:∀F∈(#[{g:=0,fn:=x.frame.fn,pos:=x.frame.place,act:=.go gs.size},{g:=gs.size,fn:=ad.frame.fn,pos:=x.frame.place,act:=.start}]:Trace),F.act≠.mark .disable/\F.act≠.mark .enable:=λF p=>by
    simp at p;rcases p with rfl|rfl<;>exact⟨by simp,by simp⟩
   refine Fin.next (e.trans r) (n _ f _ q m gs.size (by omega) (by rw[gP,if_neg (by simp;omega)];simp[z]) (by rw[gP,if_pos (by simp)]) ⟨λj y G D B=>?_,λj G=>?_⟩ (PhT.start R (by omega) (u.above gs.size (lR _)) ⟨rfl,rfl⟩ ⟨rfl,rfl⟩))
   .rw [bK t j _ c];refine u.old j y G (λk=>k) ?_;simp only[gP,Array.size_setIfInBounds]at B;rw[if_neg D,sN (by omega)]at B;exact B
   .rw [bK t j _ c];exact u.above j (by simp at G;omega)
  .obtain ⟨L,q',A,Q,e2,V,X,S,e6,-⟩:=slip (w:=W.at d) (d:=m) u R (ku W.heap.size) v T s (λk=>k) (firm0 l hr _) (by rw[iQ];exact e);rw[iQ]at Q;exact Fin.next Q (H _ (by omega) L f (t++A) q' m ((V 0 (.inl rfl)).trans l) X S (lR _))
end
inductive Good:Wx->Prop
 |bool (b:Bool):Good (C b)
 |int (k:IntKind) (n:Int):Good (I k n)
 |string (s:ByteArray):Good (U s)
 |pointer (a:Option Wu):Good (O a)
 |slice (a:Option Wu) (n c:Nat):Good (M a n c)
 |map (r:Option Nat):Good (.map r)
 |chan (r:Option Nat):Good (.chan r)
 |nilFunc:Good .nilFunc
 |nilIface:Good .nilIface
 |agg {c:Array Wx} (h:∀ (i:Nat) v,c[i]?=J v->Good v):Good (.agg c)
 |tuple {c:Array Wx} (h:∀ (i:Nat) v,c[i]?=J v->Good v):Good (.tuple c)
section
variable {ρ σ:Ren}
theorem om{Q:Wx->Wx->Wx->Prop}{c:Array Wx}(hc:c.size=c'.size)(h:∀ (i:Nat) v b,c[i]?=J v->c'[i]?=J b->∃d,Q v b d):
  ∃f:Array Wx,f.size=c'.size/\∀ (i:Nat) v b,c[i]?=J v->c'[i]?=J b->∃d,f[i]?=J d/\Q v b d:=by
 have e:∀i:_root_.Fin c'.size,∃d,Q (c[i.1]'(by omega)) c'[i.1] d:=λi=>h i.1 _ _ (eG _) (eG _)
 refine⟨Array.ofFn λi=>(e i).choose,by simp,λi v b h1 k=>?_⟩;have⟨hi,j⟩:=eS h1;have⟨a,l⟩:=eS k;refine⟨(e ⟨i,a⟩).choose,?_,?_⟩
 .rw [Array.getElem?_ofFn];simp[a]
 .have:=(e ⟨i,a⟩).choose_spec;rw[<-j,<-l];exact this
theorem xj{c:Array Wx}(hc:c.size=c'.size)(h0:b'.size=c'.size)(h:∀ (i:Nat) v v',c[i]?=J v->c'[i]?=J v'->∃a,b'[i]?=J a/\RV σ a v'/\(Good v->a=v))(l:∀ (i:Nat) v,c[i]?=J v->Good v):b'=c:=by
 refine Array.ext (by omega) (λi h1 f=>?_);have j:i<c'.size:=by omega
 obtain⟨a,e,-,k⟩:=h i _ _ (eG f) (eG j);have:=k (l i _ (eG f));rw[eG h1]at e;cases e;exact this
theorem vz{c f:Array Wx}(hc:c.size=c'.size)(h0:f.size=c'.size)(h:∀ (i:Nat) v a,c[i]?=J v->c'[i]?=J a->∃d,f[i]?=J d/\RV σ d a/\(Good v->d=v)):∀ (i:Nat) v a,f[i]?=J v->c'[i]?=J a->RV σ v a:=λi v a h1 j=>by
 have hi:i<c'.size:=(eS j).1;obtain⟨d,e,k,-⟩:=h i _ a (eG (by omega)) j;rw[h1]at e;cases e;exact k
theorem Gi(hrel:∀a b,ρ a b->σ a b)(q:σ.bad=ρ.bad){v l:Wx}(h:RV ρ v l):∃o,RV σ o l/\(Good v->o=v):=by
 have f:∀ {a i:Option Wu},RAo ρ a i->RAo σ a i:=λh=>by
  cases h with
  |none=>exact .none
  |some h=>exact .some ⟨hrel _ _ h.1,h.2⟩
 have j:∀ {a i:Option Nat},RNo ρ a i->RNo σ a i:=λh=>by
  cases h with
  |none=>exact .none
  |some h=>exact .some (hrel _ _ h)
 induction h with
 |bool b=>exact⟨_,.bool b,λ_=>rfl⟩
 |int k n=>exact⟨_,.int k n,λ_=>rfl⟩
 |string s=>exact⟨_,.string s,λ_=>rfl⟩
 |pointer h=>exact⟨_,.pointer (f h),λ_=>rfl⟩
 |slice n c h=>exact⟨_,.slice n c (f h),λ_=>rfl⟩
 |map h=>exact⟨_,.map (j h),λ_=>rfl⟩
 |chan h=>exact⟨_,.chan (j h),λ_=>rfl⟩
 |func p ha d _ _ _ _=>exact⟨_,.dead _ (by cases p<;>rfl),λk=>by cases k⟩
 |nilFunc=>exact⟨_,.nilFunc,λ_=>rfl⟩
 |iface t h _=>exact⟨_,.dead _ rfl,λk=>by cases k⟩
 |nilIface=>exact⟨_,.nilIface,λ_=>rfl⟩
 |agg d _ ih=>
  have⟨m,e,h1⟩:=om d ih;exact⟨.agg m,.agg e (vz d e h1),λk=>by cases k with|agg k=>rw[xj d e h1 k]⟩
 |tuple d _ ih=>
  have⟨m,e,h1⟩:=om d ih;exact⟨.tuple m,.tuple e (vz d e h1),λk=>by cases k with|tuple k=>rw[xj d e h1 k]⟩
 |dead l h=>exact⟨_,.dead l h,λ_=>rfl⟩
 |odd n s a c r=>exact⟨_,.odd n s a c (r.trans q.symm),λk=>by cases k⟩
theorem xl(hrel:∀a b,ρ a b->σ a b)(m:σ.bad=ρ.bad){c l:Array Wx}(h:RVs ρ c l):∃d,RVs σ d l/\d.size=c.size/\∀ (i:Nat) v,c[i]?=J v->Good v->d[i]?=J v:=by
 have⟨d,f,h1⟩:=om h.size (λi v n h1 o=>Gi (σ:=σ) hrel m (h.at_ i v n h1 o));refine⟨d,⟨f,vz h.size f h1⟩,by rw[f,h.size],λi v j p=>?_⟩;have q:i<c.size:=(eS j).1;obtain⟨v0,e,-,k⟩:=h1 i v _ j (eG (by rw[<-h.size];exact q));rw[e,k p]
theorem Gj(hrel:∀a b,ρ a b->σ a b)(l:σ.bad=ρ.bad)(hF:σ.F my=Z){o j:Obj}(h:RO ρ o j):∃f,RO σ f j/\Fixed f/\f.isChan=Z/\∀c e z,o=.cells c e z->∃d q,f=.cells d e q/\∀ (i:Nat) v,c[i]?=J v->Good v->d[i]?=J v:=by
 cases h with
 | @cells c c' e z n hz h=>
  have⟨d,k,k2,m⟩:=xl hrel l h;refine⟨.cells d e (0,max (max c.size n.2) 1),.cells e (.inr ⟨hF,rfl,by simp;omega,by simp only;omega,by simp only;omega⟩) k,⟨rfl,by simp only;omega⟩,rfl,λc1 e1 z1 p=>?_⟩;cases p;exact⟨d,_,rfl,m⟩
 |number b h=>exact⟨_,.number b ⟨hrel _ _ h.1,h.2⟩,trivial,rfl,λ_ _ _ h=>by cases h⟩
 |dead j h=>exact⟨_,.dead j h,trivial,rfl,λ_ _ _ h=>by cases h⟩
 |_=>exact⟨_,.dead _ rfl,trivial,rfl,λ_ _ _ h=>by cases h⟩
end
def xm(o:Obj):Prop:=(∃c e z,o=E c e z)\/Fixed o
def Ren.low(ρ:Ren)(F:FuncId->Bool)(live:Nat->Prop)(c:Nat)(wide:Bool)(ht:F gq=Y->wide=Z):Ren where
 rel:=ρ.rel
 fn:=ρ.fn
 inj:=ρ.inj
 prog:=ρ.prog
 F:=F
 old:=λa=>(∃b,ρ a b)/\¬live a/\a≠c
 ch:=λa=>a=c
 loose:=Y
 wide:=wide
 tight:=ht
 pin:=ρ.pin
 bad:=ρ.bad
 noM:=ρ.noM
theorem lower{ρ:Ren}{V W:Wj}(S:bN ρ V W){F:FuncId->Bool}{live:Nat->Prop}{c c':Nat}{wide:Bool}(ht:F gq=Y->wide=Z)(hF:F my=Z)(hc:ρ c c'){n s q:Nat}{b:Array Wx}{af tm:Bool}(hW:W.heap[c']?=J (.chan n' b' af s' q' tm))(ap:wide=Y\/cl=af)
  (m:∀a,live a->a≠c/\∃x e z,V.heap[a]?=J (.cells x e z)/\(∀ (i:Nat) v,x[i]?=J v->Good v)/\∀y,ρ a y->∃x',W.heap[y]?=J (.cells x' e z)):
  ∃V':Wj,bN (ρ.low F live c wide ht) V' W/\V'.heap.size=V.heap.size/\V'.tape=V.tape/\V'.drawn=V.drawn/\V'.os=V.os/\V'.heap[c]?=J (.chan n b cl s q tm)/\(∀ (a:Nat) o,V'.heap[a]?=J o->o.isChan=Y->a=c) /\
   (∀a y i v,ρ a y->V.cell? ⟨a,i,N⟩=J v->Good v->V'.cell? ⟨a,i,N⟩=J v)/\(∀a,live a->V'.heap[a]?=V.heap[a]?)/\∀a y,ρ a y->a≠c->∃o,V'.heap[a]?=J o/\xm o:=by
 classical
 generalize hσ:ρ.low F live c wide ht=σ;have hrel:∀a b,ρ a b->σ a b:=λa b h=>by subst hσ;exact h
 have R:∀a b,σ a b->ρ a b:=λa b h=>by subst hσ;exact h
 have aa:σ.F my=false:=by subst hσ;exact hF
 have ho:σ.bad=ρ.bad:=by subst hσ;rfl
 have al:=(S.lt hc).1;have j:∀a:Nat,∃P:Obj,(∀y,ρ a y->a≠c->∃L,W.heap[y]?=J L/\RO σ P L)/\(a≠c->¬live a->Fixed P)/\(a≠c->P.isChan=Z)/\(∀y x e z,ρ a y->a≠c->V.heap[a]?=J (.cells x e z)->∃x0 z0,P=.cells x0 e z0/\∀ (i:Nat) v,x[i]?=J v->Good v->x0[i]?=J v)/\(live a->V.heap[a]?=J P)/\(a=c->P=.chan n b cl s q tm):=λa=>by
  by_cases d:a=c
  .exact ⟨.chan n b cl s q tm,λ_ _ k=>absurd d k,λk=>absurd d k,λk=>absurd d k,λ_ _ _ _ _ k=>absurd d k,λk=>absurd d (m a k).1,λ_=>rfl⟩
  by_cases D:live a
  .obtain ⟨-,x,e,z,h1,h2,h3⟩:=m a D;refine⟨.cells x e z,λy A _=>?_,λ_ k=>absurd D k,λ_=>rfl,λy x1 e1 z1 A _ hx=>?_,λ_=>h1,λk=>absurd k d⟩
   .have ⟨o,L,u,G,k3⟩:=S.obj a y A;have⟨x',k4⟩:=h3 y A;rw[h1]at u;cases u;rw[k4]at G;cases G;cases k3 with
    |cells e hz h=>
     have⟨c0,m1,m2,m3⟩:=xl (σ:=σ) hrel ho h;have:c0=x:=by
      refine Array.ext m2 (λi i1 i2=>?_);have:=m3 i _ (eG i2) (h2 i _ (eG i2));rw[eG i1]at this;exact oJ this
     subst this;exact⟨_,k4,.cells e (.inl rfl) m1⟩
   .rw [h1]at hx;cases hx;exact⟨_,_,rfl,λi v h _=>h⟩
  by_cases A:∃y,ρ a y
  .obtain ⟨y,A⟩:=A;have⟨o,L,u,G,k3⟩:=S.obj a y A;have⟨P,m1,m2,m3,m4⟩:=Gj (σ:=σ) hrel ho aa k3;refine⟨P,λy2 ab _=>?_,λ_ _=>m2,λ_=>m3,λy2 x e z ab _ hx=>?_,λk=>absurd k D,λk=>absurd k d⟩
   .obtain rfl:=ρ.fn _ _ _ A ab;exact⟨L,G,m1⟩
   .rw [hx]at u;cases u;exact m4 x e z rfl
  .exact ⟨.coro N,λy k=>absurd ⟨y,k⟩ A,λ_ _=>trivial,λ_=>rfl,λy _ _ _ k=>absurd ⟨y,k⟩ A,λk=>absurd k D,λk=>absurd k d⟩
 have⟨f,j⟩:=Classical.skolem.1 j;generalize r:({V with heap:=Array.ofFn (n:=V.heap.size) λa=>f a.1}:Wj)=V';have ad:V'.heap.size=V.heap.size:=by subst r;simp
 have p:∀a,a<V.heap.size->V'.heap[a]?=J (f a):=λa H=>by
  subst r;simp[H]
 have B:V'.heap[c]?=J (.chan n b cl s q tm):=by rw[p c al,(j c).2.2.2.2.2 rfl]
 have T:∀ (a:Nat) o,V'.heap[a]?=J o->o.isChan=Y->a=c:=λa o ho t=>by
  refine Classical.byContradiction λQ=>?_
  have H:a<V.heap.size:=by rw[<-ad];exact(eS ho).1
  rw[p a H]at ho;cases ho;rw[(j a).2.2.1 Q]at t;cases t
 refine⟨V',⟨λa y l=>?_,λa ac=>?_,λa t=>?_,?_,λhb=>by rw[aa]at hb;cases hb⟩,ad,by subst r;rfl,by subst r;rfl,by subst r;rfl,B,T,λa y i v l X hg=>?_,λa D=>?_,λa y l Q=>?_⟩
 .have l:=R _ _ l;have H:=(S.lt l).1;by_cases d:a=c
  .subst d;obtain rfl:=ρ.fn _ _ _ l hc;subst hσ;exact⟨_,_,B,hW,.chan _ _ _ _ _ _ _ _ _ (.inl rfl) ap⟩
  .have ⟨L,u,G⟩:=(j a).1 y l d;exact⟨_,L,p a H,u,G⟩
 .subst hσ;obtain⟨⟨y,A⟩,h1,h2⟩:=ac;exact⟨_,p a (S.lt A).1,(j a).2.1 h2 h1⟩
 .subst hσ;have t:a=c:=t;subst t;exact⟨_,B,rfl⟩
 .subst r;exact S.os
 .have H:=(S.lt l).1;unfold World.cell? at X ⊢;rw[p a H];cases hr:V.heap[a]? with
  |none=>rw[hr]at X;cases X
  |some o=>
   rw[hr]at X;cases o with
   |cells x e z=>
    by_cases d:a=c
    .subst d;have⟨o,L,u,G,k3⟩:=S.obj a c' hc;rw[hW]at G;cases G;rw[hr]at u;cases u;cases k3
    .have ⟨x0,z0,u,G⟩:=(j a).2.2.2.1 y x e z l d hr;rw[u];simp only at X ⊢;exact G i v X hg
   |_=>cases X
 .have H:a<V.heap.size:=by
   obtain⟨-,x,e,z,h1,-⟩:=m a D;exact(eS h1).1
  exact(p a H).trans ((j a).2.2.2.2.1 D).symm
 .refine ⟨_,p a (S.lt l).1,?_⟩;by_cases D:live a
  .obtain ⟨-,x,e,z,h1,-⟩:=m a D;have:=(j a).2.2.2.2.1 D;rw[h1]at this;exact .inl ⟨x,e,z,(oJ this).symm⟩
  .exact .inr ((j a).2.1 Q D)
section
variable {P:Wv} {N T:Wk->Wj->Prop} {g g':Wk} {w w':Wj}
theorem LC.status{c:CommCase}{s:CommShape}(h:LC P g c s w g' w'):g'.status=.running:=by
 cases h with
 |dead _ _ _ a=>exact a
 |_=>rfl
theorem LS.status(h:LS P g w g' w'):g'.status=.running:=by
 cases h with
 |go _ hr _=>exact hr
 |comm _ a=>exact a.status
theorem LS.next(hr:g.status=.running)(h:LS P g w g' w'){m:Machine}(hs:step P (solo g w)=.next m):m=solo g' w'\/∃b,b.status=.blocked/\m.gs=#[b]/\∃u,m=solo b u:=by
 cases h with
 |go h _ _=>
  rw[lx hr h]at hs;exact .inl (by cases hs;rfl)
 | @comm g1 c s k es _ _ h j=>
  rw[sw hr h]at hs;by_cases f:g1.status=.running
  .rcases sx f hs with⟨b,q,l,rfl⟩|rfl
   .obtain ⟨rfl,rfl⟩:=(LS.comm h l).fn (LS.comm h j);exact .inl rfl
   .exact .inr ⟨_,rfl,rfl,_,rfl⟩
  .have a:(communicate P {timers:=#[],alone:=N,slice:=N} #[away] 0 g1 #[c] Y s k).1=.next m:=hs
   obtain⟨ch,sd,z⟩:=c;cases j with
   |dead _ _ _ n=>exact absurd n f
   |send h1 d e i=>
    simp only at h1 d;subst h1;subst d;simp[communicate,ways,e,cH,i,choose,Sem.run,Question.forced,bind,Sem.bind,pure]at a;exact .inl a.symm
   |recv h1 d e i=>
    simp only at h1 d;subst h1;subst d;simp[communicate,ways,e,cH,i,choose,Sem.run,Question.forced,bind,Sem.bind,pure]at a;refine .inl ?_;rw[<-a];simp[solo,i]
   |shut h1 d e=>
    simp only at h1 d;subst h1;subst d;simp[communicate,ways,e,cH,choose,Sem.run,Question.forced,bind,Sem.bind,pure]at a;exact .inl a.symm
theorem A7(y:∀g w,T g w->∀n a c,runN P n (solo g w)=.next (solo a c)->a.callers.length<=1):∀ (n:Nat)(g:Wk)(w:Wj),Dem P N T g w->g.status=.running->∀a c,runN P n (solo g w)=.next (solo a c)->a.status=.running->1<a.callers.length->LSs P T g w a c/\Dem P N T a c:=by
 intro n;induction n with
 |zero=>
  intro g w p _ a c h _ _;simp only[runN,Stepped.next.injEq]at h;have j:#[g]=#[a]:=congrArg Machine.gs h;have A:w=c:=congrArg Machine.world h;simp at j;subst j;subst A;exact⟨.refl _ _,p⟩
 |succ n ih=>
  intro g w p hr a c h f t;cases p with
  |stop k=>
   have:=y g w k _ _ _ h;omega
  |step hN q l v=>
   have⟨g',w',d⟩:=l w.tape w.drawn;have i:LS P g w g' w':=d;simp only[runN]at h;cases hs:step P (solo g w)with
   |ended o u=>rw[hs]at h;cases h
   |next m=>
    rw[hs]at h;rcases i.next hr hs with rfl|⟨b,r,-,u,rfl⟩
    .obtain ⟨s,x⟩:=ih g' w' (v _ _ _ _ d) d.status a c h f t;exact⟨.step q w.tape w.drawn d s,x⟩
    .cases n with
     |zero=>
      simp only[runN,Stepped.next.injEq]at h;have j:#[b]=#[a]:=congrArg Machine.gs h;simp at j;subst j;rw[r]at f;cases f
     |succ n=>
      have⟨o,z,e⟩:=iL (P:=P) (w:=u) (g:=b) r;simp only[runN,e]at h;cases h
theorem Dem.on(e:∀g w a d,N g w->N g (w.on a d))(b:∀g w a d,T g (w.on a d)↔T g w)(h:Dem P N T g w)(a:Nat->Question->Nat)(d:Nat):Dem P N T g (w.on a d):=by
 cases h with
 |stop k=>exact .stop ((b _ _ _ _).2 k)
 |step h1 f c i=>exact .step (e _ _ _ _ h1) (λk=>f ((b _ _ _ _).1 k)) c i
theorem LSs.on{a:Nat->Question->Nat}{d:Nat}(f:∀g w a d,T g (w.on a d)↔T g w){o:Wk}(h:LSs P T g (w.on a d) o w2):(o=g/\w2=w.on a d)\/LSs P T g w o w2:=by
 cases h with
 |refl=>exact .inl ⟨rfl,rfl⟩
 |step e c i h hs=>exact .inr (.step (λk=>e ((f _ _ _ _).2 k)) c i h hs)
theorem pE{f:FuncId}{R:(Nat->Question->Nat)->Nat->Ending->Wj->Prop}(h:Ends P f R g w):∀n A G,runN P n (solo g w)=.next (solo A G)->A.callers.length<=1:=by
 obtain⟨τ,d,τ',d',e,j,-,rfl,-,m,t⟩:=h;intro n A G i;have k:∀ {a b:Wk} {u v:Wj},solo a u=solo b v->a=b:=λh=>by
  have B:=congrArg Machine.gs h;simpa[solo]using B
 cases n with
 |zero=>
  simp only[runN,Stepped.next.injEq]at i;rw[<-k i];exact lR _
 |succ n=>
  have y:(∃o u es,stepG P Y {frame:=j,callers:=[trap P],status:=.running,dying:=N} w=.ended o u es)\/∃l u es,stepG P Y {frame:=j,callers:=[trap P],status:=.running,dying:=N} w=.go {frame:=l,callers:=[],status:=.running,dying:=N} u es/\(l=trap P\/∃c,l=(trap P).raise c):=by
   cases e with
   |outgrown=>exact absurd rfl t
   |panicked c=>
    obtain⟨p,q,fn,s⟩:=m;have Q:j.catches P=false:=by unfold Frame.catches;rw[s]
    refine .inr ⟨(trap P).raise c,w,#[],?_,.inr ⟨c,rfl⟩⟩;simp only[stepG,p,unwind,q,Q];rfl
   |returned v=>
    obtain⟨p,q,L,fn,s,-⟩:=m;have H:stepG P Y {frame:=j,callers:=[trap P],status:=.running,dying:=N} w=unwind P Y j [trap P] N w:=by simp only[stepG,p]
    rw[H];unfold unwind;simp only[q,p,s];cases hr:(results fn j.tmps).runT P w #[]with
    |mk r es=>
     cases r with
     |ok v u=>
      have⟨l,B,h1⟩:=jK (P:=P) j (by rw[L];rfl) v u;simp only[B];exact .inr ⟨l,_,_,rfl,h1⟩
     |halt x u=>cases x<;>exact .inl ⟨_,_,_,rfl⟩
  simp only[runN]at i;rcases y with⟨o,u,es,D⟩|⟨l,u,es,D,F⟩
  .rw [fi (g:={frame:=j,callers:=[trap P],status:=.running,dying:=N}) rfl D]at i;cases i
  .rw [lx (g:={frame:=j,callers:=[trap P],status:=.running,dying:=N}) rfl D]at i;cases n with
   |zero=>
    simp only[runN,Stepped.next.injEq]at i;rw[<-k i];exact Nat.zero_le _
   |succ n=>
    have⟨o,z,es2,S⟩:=sB (P:=P) F u;simp only[runN,fi (g:={frame:=l,callers:=[],status:=.running,dying:=N}) rfl S]at i;cases i
end
def Marks(ρ:Ren)(l:List Deferred):Prop:=∀d∈l,∃r b,d.target=.collected r/\ρ r b
theorem RDs.marks{ρ:Ren}(f:(ρ.F gq||ρ.F mz)=Z){l c:List Deferred}(h:RDs ρ l c):Marks ρ l:=by
 induction h with
 |nil=>exactλd e=>by cases e
 | @cons d i l c h _ a ih=>
  intro x b;rcases List.mem_cons.1 b with rfl|b
  .rcases a with⟨r,hr⟩|a
   .cases h with
    |odd=>cases hr
    |mk this _=>
     rw[hr]at this;generalize i.target=y at this;cases this with
     |collected k=>exact⟨r,_,hr,k⟩
   .rw [f]at a;cases a
  .exact ih x b
inductive Fl (P:Wv)(ρ:Ren):List Wy->Prop
 |base:Fl P ρ [trap P]
 |cons {f:Wy} {l:List Wy} (hc:f.catches P=Z) (hm:Marks ρ f.defers) (hl:Fl P ρ l):Fl P ρ (f::l)
theorem RFs.fl{P Q:Wv}{ρ:Ren}(b:(ρ.F gq||ρ.F mz)=Z){l c:List Wy}(h:RFs P ρ ([trap Q],[]) l c):Fl Q ρ l:=by
 generalize a:(([trap Q],[]):List Wy×List Wy)=X at h;induction h with
 |base=>rw[<-a];exact .base
 |cons h _ _ ih=>exact .cons (fh h Q).1 (h.defers.marks b) ih
def Ce(V w:Wj):Prop:=w.heap.size=V.heap.size/\∀a,w.cell? a=V.cell? a
theorem Gk{P:Wv}{f:FuncId}{R:(Nat->Question->Nat)->Nat->Ending->Wj->Prop}{ρ:Ren}{en:PanicEntry}{V:Wj}{g:Wk}{w:Wj}(hD:Dem P (λg _=>NB [trap P] g) (Ends P f R) g w):
  ∀l,g.frame.mode=.panicking (en::l)->g.dying=N->g.frame.catches P=Z->Marks ρ g.frame.defers->Fl P ρ g.callers->(∀r b,ρ r b->∀l,w.heap[r]?=J (.deferred (J l))->Marks ρ l)->Ce V w->∃τ d l u,R τ d (.panicked (en::l)) u/\Ce V u:=by
 induction hD with
 | @stop g w hT=>
  intro l z B _ _ _ _ t;obtain⟨τ,d,τ',d',e,fr,hR,rfl,-,S,aa⟩:=hT;simp only at z;cases e with
  |outgrown=>exact absurd rfl aa
  |returned v=>
   obtain⟨h,-⟩:=S;rw[z]at h;cases h
  |panicked c=>
   obtain⟨h,-⟩:=S;rw[z]at h;cases h;exact⟨τ,d,l,_,hR,t⟩
 | @step g w hN hT ad hn ih=>
  intro l z B A H D y t;have⟨g',w',F⟩:=ad w.tape w.drawn;have p:LS P g w g' w':=F;have i:stepG P Y g w=unwind P Y g.frame g.callers N w:=by
   obtain⟨fr,cs,st,dy,off⟩:=g;simp only at z B;subst B;simp only[stepG,z]
  cases s:g.frame.defers with
  |cons x ds=>
   have⟨r,b,hx,ab⟩:=H x (by rw[s];exact List.mem_cons_self ..);obtain⟨tg,ar⟩:=x;simp only at hx;subst hx;have G:∀m,w.heap[r]?=J (.deferred (J m))->(Instr.takeDeferred r).runT P w #[]=(.ok m {w with heap:=w.heap.setIfInBounds r (.deferred N)},#[⟨.obj r,Z,Z⟩,⟨.obj r,Y,Z⟩]):=λm n=>by
    unfold Instr.takeDeferred;show Sem.runT P (Sem.getObj r _) w #[]=_;simp only[Sem.runT,n];show Sem.runT P (Sem.setObj r (.deferred N) _) w _=_;simp only[Sem.runT,n];rfl
   have Q:(∀m,w.heap[r]?≠J (.deferred (J m)))->∃h u es,(Instr.takeDeferred r).runT P w #[]=(.halt h u,es):=λX=>by
    unfold Instr.takeDeferred;show∃h u es,Sem.runT P (Sem.getObj r _) w #[]=(.halt h u,es);cases n:w.heap[r]? with
    |none=>simp only[Sem.runT,n];exact⟨_,_,_,rfl⟩
    |some o=>
     cases o with
     |deferred q=>
      cases q with
      |none=>simp only[Sem.runT,n];exact⟨_,_,_,rfl⟩
      |some m=>exact absurd n (X m)
     |_=>simp only[Sem.runT,n];exact⟨_,_,_,rfl⟩
   unfold unwind at i;simp only[s]at i;by_cases L:∃m,w.heap[r]?=J (.deferred (J m))
   .obtain ⟨m,n⟩:=L;rw[G m n]at i;have j:∃es,stepG P Y g w=.go {frame:={g.frame with defers:=m++ds},callers:=g.callers,status:=.running,dying:=N} {w with heap:=w.heap.setIfInBounds r (.deferred N)} es:=⟨_,i⟩;obtain⟨es,j⟩:=j;cases p with
    |comm h _=>rw[j]at h;cases h
    |go h _ _=>
     rw[j]at h;cases h;refine ih _ _ _ _ F l z rfl A (λd hd=>?_) D (λr1 b1 al l1 h1=>?_) ⟨?_,λa=>?_⟩
     .rcases List.mem_append.1 hd with k|k
      .exact y r b ab m n d k
      .exact H d (by rw[s];exact List.mem_cons_of_mem _ k)
     .by_cases e:r=r1
      .subst e;simp only at h1;rw[sS (eS n).1]at h1;cases h1
      .simp only[sN e]at h1;exact y r1 b1 al l1 h1
     .simp only[Array.size_setIfInBounds];exact t.1
     .rw [<-t.2 a];unfold World.cell?;by_cases e:r=a.block
      .simp only[<-e,sS (eS n).1,n]
      .simp only[sN e]
   .have ⟨h,u,es,hb⟩:=Q (λm k=>L ⟨m,k⟩);rw[hb]at i;exfalso;have:∃o u es,stepG P Y g w=.ended o u es:=⟨_,_,_,i⟩;obtain⟨o,u,es,i⟩:=this;cases p with
    |comm h _=>rw[i]at h;cases h
    |go h _ _=>rw[i]at h;cases h
  |nil=>
   unfold unwind at i;simp only[s,z,A]at i;generalize af:g.callers=cs at D i;cases D with
   |base=>
    exfalso;rcases hN af with k|k
    .rw [z]at k;cases k
    .exact k s
   | @cons c T av ac ap=>
    have j:stepG P Y g w=.go {frame:=c.raise (en::l),callers:=T,status:=.running,dying:=N} w #[]:=i;cases p with
    |comm h _=>rw[j]at h;cases h
    |go h _ _=>
     rw[j]at h;cases h;have hr:∃l2,(c.raise (en::l)).mode=.panicking (en::l2):=by
      unfold Frame.raise;cases c.mode with
      |panicking ch=>exact⟨l++ch,rfl⟩
      |_=>exact⟨l,rfl⟩
     obtain⟨l2,hr⟩:=hr;have hk:(c.raise (en::l)).defers=c.defers/\(c.raise (en::l)).catches P=c.catches P:=by
      unfold Frame.raise Frame.catches;cases c.mode<;>exact⟨rfl,rfl⟩
     exact ih _ _ _ _ F l2 hr rfl (by rw[hk.2];exact av) (by rw[hk.1];exact ac) ap y t
section
open Go.Conc (crowd Past EvL Deaf QuitsD woken awake crowd_pick runT_crowd_go Goes AtRel goes_elim)
open Go.ConcN (sumTo upd sumTo_upd upd_ne upd_same)
variable {P:Wv} {Post:Wx->Wj->Prop}
def DB(B:Nat):Wj->Wj->Array Event->Prop:=λ_ _ es=>∀e∈es,EvL iy B e
def H9(P:Wv)(Post:Wx->Wj->Prop)(B:Nat)(g:Wk)(W:Wj):Prop:=
 ∀ (gs:Array Wk) (sl:Option (Nat×Nat)) (t:Trace) (q:Nat->Nat),gs[0]?=J g->Lv P (λ_=>False) t gs q->Past iy B t->Fin P Post gs W sl t
theorem xn{B:Nat}:∀ {n:Nat}{g:Wk}{W:Wj},Goes P Y AtRel (DB B) (H9 P Post B) n g W->H9 P Post B g W:=by
 intro n;induction n with
 |zero=>intro g W h;exact h W ⟨W.drawn,rfl⟩
 |succ n ih=>
  intro g W h gs sl t q j u D;rcases h with h|⟨hr,h⟩
  .exact h W ⟨W.drawn,rfl⟩ gs sl t q j u D
  .obtain ⟨a,hM⟩:∃a,sumTo gs.size q<=a:=⟨_,lR _⟩;obtain⟨b,o⟩:∃b,W=W.at b:=⟨W.drawn,rfl⟩;rw[o];clear o;induction a using Nat.strongRecOn generalizing gs sl t q b with
   |_ a A=>
    have⟨i,x,f,p,r,R,c⟩:=crowd_pick (P:=P) (w:=W.at b) (sl:=sl) (iM u j hr) ⟨0,g,j,hr⟩;rw[iQ]at c;rcases Nat.eq_zero_or_pos i with rfl|m
    .obtain rfl:x=g:=by rw[j]at r;exact(oJ r).symm
     have⟨g',W',es,y,z,v⟩:=goes_elim (h (W.at f) ⟨f,rfl⟩);obtain⟨e,l,s,L,H,F,-,G⟩:=qI (w:=W.at b) u r (.inl rfl) (d:=f) (by rw[iQ];exact c) (show stepG P (0==0) x ((W.at b).at f)=_ from y);subst L;exact Fin.next s (ih v e p _ q F G (D.own z))
    .obtain ⟨e,S,l,s,L,H,F,Q,G,-⟩:=slip (w:=W.at b) (d:=f) u D (ku B) r R m (λk=>k) (firm0 j hr _) (by rw[iQ];exact c);rw[iQ]at s;exact Fin.next s (A _ (by omega) e p (t++l) S ((H 0 (.inl rfl)).trans j) F Q (lR _) f)
end
section
open Go.Conc Go.ConcX Go.ConcX.Gen
theorem g6{P:Wv}{tm:Bool}{fr:Wy}{a:Act}{k:List Item}{cs:List Wy}{w:Wj}{c:Array Oper}{i:Nat}{d:List Nat}{o:Oper}{K:Wk->Wj->Array Event->Prop}
  (h:∀K':Act->Wj->Prop,(∀f w',K (G (fr.at f (.inRegion c d::k)) cs) w' (listed P fr.fn a o w)->K' f w')->uponK o a K' ((execOp a.eval o).run P w)) (m:c[i]?=J o:=by rfl) (j:Region.wanted o (yielded c a.tmps)=true:=by rfl) (l:fr.kind≠.early:=by decide):
  (stepG P tm (G (fr.at a (.inRegion c (i::d)::k)) cs) w).goes K:=goes_oper_k m j l h
def iz:Code->Code
 | .seq a _=>a
 |c=>c
def dh:Code->Code
 | .seq _ b=>b
 |c=>c
def oW:Code->Array Oper
 | .region _ a _=>a
 |_=>#[]
def bV(fn:Func):Code:=fn.body.getD .skip
noncomputable def vB:Array Oper:=oW (iz (dh (dh (bV Tryz.f72))))
noncomputable def jB:Code:=dh (dh (dh (bV Tryz.f72)))
def qV(a:Bool)(p d b:ByteArray):Wx:=.agg #[C a,U p,U d,U b]
def sV(root:Option Wu):Wx:=.agg #[O root]
def ptr(n:Nat):Wx:=O (J ⟨n,0,N⟩)
def ew(n:Nat):Wx:=.func (.func 94) #[] #[ptr (n+3),ptr n,ptr (n+1)]
def fx(n:Nat)(root:Option Wu)(a:Bool)(p d b:ByteArray)(x:Wx):Array Wx:=#[qV a p d b,sV root,ptr n,ptr (n+1),.chan N,ptr (n+3),.chan (J (n+2)),x,Wo]
def itW(W:Wj)(root:Option Wu)(b:Bool)(p d c:ByteArray)(a:Nat):Wj:=
 (((W.alloc (E #[C b,U p,U d,U c] 74)).alloc (E #[O root] 33)).alloc (.chan a #[] Z 0 0 Z)).alloc (E #[.chan (J (W.heap.size+2))] 180)
theorem FD:∃i,Tryz.prog.info? 117=J i/\i.bytes=32:=⟨Tryz.t117,by unfold Tables.info?;rw[if_pos (by rw[Tryz.types_size];decide)];exact type117,rfl⟩
theorem DR (c:Wy)(cs:List Wy)(k:Option Wu)(r:Bool)(p d s:ByteArray)(W:Wj)(B:Nat)(hB:W.heap.size+4=B){Stop:Wk->Wj->Prop}
    (o:∀l,Stop (G ((base 72).at ⟨fx W.heap.size k r p d s (ew W.heap.size),[]⟩ [.inRegion vB [1],.code jB]) (c::cs)) ((itW W k r p d s 20).at l)):
    Goes Tryz.prog Y AtRel (DB B) Stop 20 (G (Frame.enter Tryz.prog 72 #[qV r p d s,sV k] .normal) (c::cs)) W:=by
  obtain⟨i41,m,n⟩:=FD;unfold qV sV;rw[enter_at _ func72 rfl]
  walk_nrmf Tryz.f72
  refine Goes.step rfl (λw₁ a=>?_);obtain⟨l,b⟩:=a;subst b
  try simp only[alloc_at,setCell_at,iQ]
  rw[stepG_seq];simp only[goes_go];refine⟨λe f=>by simp at f,?_⟩
  iterate 7
    refine Goes.step rfl (λw₁ a=>?_);obtain⟨l,b⟩:=a;subst b
    try simp only[alloc_at,iQ]
    first
      |((first|rw[stepG_seq] |rw[stepG_region] |rw[stepG_region_end]);simp only[goes_go,lZ,lC,lN,Nat.reduceAdd,zA,List.range,List.range.loop];refine⟨λe f=>by simp at f,?_⟩)
      | (refine g6 (fun K j => ?_)
         go_simp
         refine j _ _ ⟨λe f=>?_,?_⟩
         . have i:=mem_listed f
           simp[go_sem, *]at i
           try(subst i;exact evL_cell _ _ (λh=>h) (by simp<;>omega))
         clear j K)
  refine Goes.step rfl (λw₁ a=>?_);obtain⟨l,b⟩:=a;subst b
  try simp only[iQ]
  refine g6 (λK j=>?_);have t:=λw=>run_makeChan (P:=Tryz.prog) (w:=w) underlying180 m .i64 20 (by omega) (by rw[n];omega)
  have q:=λw es=>events_makeChan (P:=Tryz.prog) (w:=w) underlying180 m .i64 20 (by omega) (by rw[n];omega) es
  simp only[Int.cast_ofNat_Int]at t q
  go_simp
  refine j _ _ ⟨λe f=>?_,?_⟩
  . have i:=mem_listed f
    simp[go_sem, *]at i
    try(subst i;exact evL_cell _ _ (λh=>h) (by simp<;>omega))
  clear j K;refine Goes.step rfl (λw₁ a=>?_);obtain⟨l,b⟩:=a;subst b
  try simp only[alloc_at,iQ]
  refine g6 (λK j=>?_)
  go_simp
  refine j _ _ ⟨λe f=>?_,?_⟩
  . have i:=mem_listed f
    simp[go_sem, *]at i
    try(subst i;exact evL_cell _ _ (λh=>h) (by simp<;>omega))
  clear j K;refine Goes.step rfl (λw₁ a=>?_);obtain⟨l,b⟩:=a;subst b
  try simp only[alloc_at,iQ]
  refine g6 (λK j=>?_)
  go_simp
  refine j _ _ ⟨λe f=>?_,?_⟩
  . have i:=mem_listed f
    simp[go_sem,storedEv, *]at i
    try(subst i;exact evL_cell _ _ (λh=>h) (by simp<;>omega))
  clear j K;refine Goes.step rfl (λw₁ a=>?_);obtain⟨l,b⟩:=a;subst b
  try simp only[setCell_at,iQ]
  rw[stepG_region_end];simp only[goes_go];refine⟨λe f=>by simp at f,?_⟩
  iterate 3
    refine Goes.step rfl (λw₁ a=>?_);obtain⟨l,b⟩:=a;subst b
    try simp only[iQ]
    first
      |((first|rw[stepG_seq] |rw[stepG_region]);simp only[goes_go,lZ,lC,lN,Nat.reduceAdd,zA,List.range,List.range.loop];refine⟨λe f=>by simp at f,?_⟩)
      | (refine g6 (fun K j => ?_)
         go_simp
         refine j _ _ ⟨λe f=>?_,?_⟩
         . have i:=mem_listed f
           simp[go_sem, *]at i
           try(subst i;exact evL_cell _ _ (λh=>h) (by simp<;>omega))
         clear j K)
  refine Goes.stop (λw₁ a=>?_);obtain⟨l,b⟩:=a;subst b;exact o l
end
section
open Go.Conc Go.ConcX Go.ConcX.Gen Go.RowKit
structure Lst where
 num:Int
 root:Option Wu
 vs:Bool
 p:ByteArray
 d:ByteArray
 af:ByteArray
 size:Int
 left:Int
def aM(l:Lst):Array Wx:=#[I K l.num,O l.root,C l.vs,U l.p,U l.d,U l.af,I K l.size,I K l.left]
def lV(l:Lst):Wx:=.agg (aM l)
def pgW(W:Wj)(l:Lst):Wj:=
 ((W.alloc (E (aM l) 107)).alloc (E #[M N 0 0,U ⟨#[]⟩] 69)).alloc (E #[M N 0 0,U ⟨#[]⟩] 69)
noncomputable def cf:Code:=dh (dh (dh (dh (bV Tryz.f44))))
noncomputable def sH:Array Oper:=oW (iz (iz cf))
noncomputable def mD:List Item:=[.code (dh (iz cf)),.code (dh cf)]
def kz(n:Nat)(l:Lst)(a:Int):Array Wx:=
 #[lV l,I K a,ptr n,Wo,ptr (n+1),ptr (n+2),I K (IntKind.i64.wrap (a*l.size)),I K 0,Wo,I K a,O (J ⟨n,6,N⟩),I K l.size,I K (IntKind.i64.wrap (a*l.size)),O (J ⟨n,2,N⟩),qV l.vs l.p l.d l.af,O (J ⟨n,1,N⟩),sV l.root,Wo,Wo,Wo,Wo,Wo,Wo,Wo,Wo,Wo,Wo,Wo,Wo,Wo,Wo,Wo,Wo,Wo,Wo,Wo,Wo,Wo,Wo,Wo,Wo,Wo,Wo,Wo,Wo,Wo,Wo,Wo,Wo]
theorem Gl:∃i,Yq.prog.info? 117=J i/\i.bytes=32:=by
 rw[Yq.tables];exact FD
theorem DS(l:Lst)(b:Int)(cs:List Wy)(w:Wj):Steps Yq.prog (lone ((base 44).at ⟨#[lV l,I .i64 b]++Array.replicate 47 Wo,[]⟩ [.code Yq.b44]) cs w) (lone ((base 44).at ⟨kz w.heap.size l b,[]⟩ (.inRegion sH [4]::mD)) cs (pgW w l)):=by
 have h:LoneTo Yq.prog (λg' w'=>g'=G ((base 44).at ⟨kz w.heap.size l b,[]⟩ (.inRegion sH [4]::mD)) cs/\w'=pgW w l) (G ((base 44).at ⟨#[lV l,I .i64 b]++Array.replicate 47 Wo,[]⟩ [.code Yq.b44]) cs) w:=by
  obtain⟨num,root,vs,p,d,af,size,left⟩:=l;refine LoneTo.goes (n:=40) ?_;unfold lV aM;dsimp only[Yq.b44,Tryz.f44,Option.getD]
  walk_nrm
  iterate 28
   refine Goes.step rfl (λw₁ a=>?_);subst a;first
    |((first|rw[stepG_seq] |rw[stepG_region] |rw[stepG_region_end]);simp only[goes_go,lZ,lC,lN,Nat.reduceAdd,zA,List.range,List.range.loop];refine⟨trivial,?_⟩)
    |(refine g6 (λK c=>?_);go_simp;refine c _ _ ⟨trivial,?_⟩;clear c K)
  refine Goes.stop (λw₁ a=>?_);subst a;exact LoneTo.done ⟨rfl,rfl⟩
 obtain⟨g',w',hs,rfl,rfl⟩:=h;exact hs
theorem vC{P:Wv}{ops:Array Oper}{a:Act}{w w':Wj}{i:Nat}{rest:List Nat}{o:Oper}{v:Wx}{b:Wy}{k:List Item}{cs:List Wy}(d:ops[i]?=J o)(e:Region.wanted o (yielded ops a.tmps)=Y)(hr:(execOp a.eval o).run P w=.ok (.value v) w'):
  step P (lone (b.at a (.inRegion ops (i::rest)::k)) cs w)=.next (lone (b.at (a.put o.dst v) (.inRegion ops rest::k)) cs w'):=by
 have f:=stepG_op (P:=P) (b:=b) (k:=k) (cs:=cs) (w:=w) (rest:=rest) d e;have c:(b.at a (.inRegion ops (i::rest)::k)).finish v=b.at (a.put o.dst v) (.inRegion ops rest::k):=by rw[Frame.finish_at,d];rfl
 exact step_lone_go (by rw[f,<-c];simp[stepG.apply,hr])
theorem qK{P:Wv}{d:Array Oper}{a:Act}{w w':Wj}{i:Nat}{c:List Nat}{o:Oper}{f:FuncId}{fr:Wy}{k:List Item}{cs:List Wy}(j:d[i]?=J o)(h:Region.wanted o (yielded d a.tmps)=Y)(hr:(execOp a.eval o).run P w=.ok (.enter f c') w'):
  step P (lone (fr.at a (.inRegion d (i::c)::k)) cs w)=.next (lone (Frame.enter P f c' .normal) (fr.at a (.inRegion d (i::c)::k)::cs) w'):=by
 have l:=stepG_op (P:=P) (b:=fr) (k:=k) (cs:=cs) (w:=w) (rest:=c) j h;exact step_lone_go (by rw[l];simp[stepG.apply,hr,Frame.at])
noncomputable def eP(n:Nat)(root:Option Wu)(a:Bool)(p d b:ByteArray)(x:Wx)(r:List Nat):Wy:=(base 72).at ⟨fx n root a p d b x,[]⟩ [.inRegion Yq.itemsOps2 r,.code jB]
theorem A8(root:Option Wu)(vs:Bool)(p d af:ByteArray)(cs:List Wy)(w:Wj):Steps Yq.prog (lone (Frame.enter Yq.prog 72 #[qV vs p d af,sV root] .normal) cs w) (lone (Frame.enter Yq.prog 94 #[ptr (w.heap.size+3),ptr w.heap.size,ptr (w.heap.size+1)] .normal) (eP w.heap.size root vs p d af (ew w.heap.size) [1,2]::cs) (itW w root vs p d af 1000)):=by
 have h:LoneTo Yq.prog (λg' w'=>g'=G (eP w.heap.size root vs p d af (ew w.heap.size) [1,2]) cs/\w'=itW w root vs p d af 1000) (G (Frame.enter Yq.prog 72 #[qV vs p d af,sV root] .normal) cs) w:=by
  obtain⟨i41,hi41,hb41⟩:=Gl;refine LoneTo.goes (n:=40) ?_;unfold qV sV;rw[enter_at _ Yq.func72 rfl];dsimp only[Yq.b72,Yq.itemsOps0,Yq.itemsOps1,Yq.itemsOps2,Yq.itemsOps3]
  walk_nrmf Tryz.f72
  iterate 8
   refine Goes.step rfl (λw₁ h₁=>?_);subst h₁;first
    |((first|rw[stepG_seq] |rw[stepG_region] |rw[stepG_region_end]);simp only[goes_go,lZ,lC,lN,Nat.reduceAdd,zA,List.range,List.range.loop];refine⟨trivial,?_⟩)
    |(refine g6 (λK hK=>?_);go_simp;refine hK _ _ ⟨trivial,?_⟩;clear hK K)
  refine Goes.step rfl (λw₁ h₁=>?_);subst h₁;refine g6 (λK hK=>?_);have hmk:=λw=>run_makeChan (P:=Yq.prog) (w:=w) (Yq.u underlying180) hi41 .i64 1000 (by omega) (by rw[hb41];omega)
  simp only[Int.cast_ofNat_Int]at hmk
  go_simp
  refine hK _ _ ⟨trivial,?_⟩;clear hK K
  iterate 6
   refine Goes.step rfl (λw₁ h₁=>?_);subst h₁;first
    |((first|rw[stepG_seq] |rw[stepG_region] |rw[stepG_region_end]);simp only[goes_go,lZ,lC,lN,Nat.reduceAdd,zA,List.range,List.range.loop];refine⟨trivial,?_⟩)
    |(refine g6 (λK hK=>?_);go_simp;refine hK _ _ ⟨trivial,?_⟩;clear hK K)
  refine Goes.stop (λw₁ h₁=>?_);subst h₁;exact LoneTo.done ⟨rfl,rfl⟩
 obtain⟨g',w',hs,rfl,rfl⟩:=h
 refine Steps.trans hs (.one (qK (o := { dst := N, op := .call { callee := .value (.tmp 7), args := #[], argTypes := #[] }, type := 0, pos := "", after := #[], guard := N }) rfl rfl ?_))
 simp[go_sem,Act.eval,fx,ew]
def stopEntry(x y:Wx):PanicEntry:={v:=.iface 3 (.func (.func 44) #[x,y] #[]),recovered:=Z}
def iR(x y:Wx):Array Wx:=#[x,y,Wo,Wo,Wo,Wo,Wo,Wo,Wo,Wo,Wo,Wo,Wo,Wo,Wo,Wo,Wo,Wo,Wo,Wo,Wo,Wo,Wo,Wo,Wo,Wo,Wo,Wo,Wo,Wo,Wo,Wo,Wo,Wo,Wo,Wo,Wo,Wo,Wo,Wo,Wo,Wo,Wo,Wo,Wo,Wo,Wo,Wo,Wo]
theorem sI(x y:Wx):#[x,y]++Array.replicate 47 Wo=iR x y:=Array.toList_inj.1 (by simp[iR,List.replicate])
theorem pG(x y:Wx):Frame.enter Yq.prog 44 #[x,y] .normal=(base 44).at ⟨iR x y,[]⟩ [.code (.seq Yq.magic Yq.b44)]:=by
 rw[enter_at _ Yq.func44 rfl,<-sI];rfl
theorem Ia:Region.schedule (Yq.prog.follows .mixedOrders) Yq.drawOps 1=[1,0]:=by
 have h:∀b,Region.schedule b Yq.drawOps 1=[1,0]:=λb=>by cases b<;>simp[Region.schedule,Region.linearise,Region.linearise.go,Region.departs,Yq.drawOps,List.range,List.range.loop]
 exact h _
theorem Ib:Region.schedule (Yq.prog.follows .mixedOrders) Yq.drawOps 0=[0,1]:=by
 have h:∀b,Region.schedule b Yq.drawOps 0=[0,1]:=λb=>by cases b<;>simp[Region.schedule,Region.linearise,Region.linearise.go,Region.departs,Yq.drawOps,List.range,List.range.loop]
 exact h _
def fy:Code:=.seq (.cond (.tmp 9) (.region 101 Yq.stopOps Z) .skip) (.region 102 Yq.backOps Z)
theorem pH(x y:Wx)(cs:List Wy)(w:Wj)(t:Nat)(r:List Nat)(hr:Region.schedule (Yq.prog.follows .mixedOrders) Yq.drawOps t=r)(c:w.tape w.drawn (.order 44 100)=t):
  Steps Yq.prog (lone (Frame.enter Yq.prog 44 #[x,y] .normal) cs w) (lone ((base 44).at ⟨iR x y,[]⟩ [.inRegion Yq.drawOps r,.code fy,.code Yq.b44]) cs {w with drawn:=w.drawn+1}):=by
 rw[pG];refine .head step_seq (.head (step_seq (x:=.region 100 Yq.drawOps Y) (y:=fy)) (.one ?_));have:=step_region_draw (P:=Yq.prog) (b:=base 44) (a:=⟨iR x y,[]⟩) (k:=[.code fy,.code Yq.b44]) (cs:=cs) (w:=w) (ops:=Yq.drawOps) (id:=100);rw[show(base 44).fn=44 from rfl,c,hr]at this;exact this
theorem DT(x y:Wx)(cs:List Wy)(w:Wj)(hr:Region.schedule (Yq.prog.follows .mixedOrders) Yq.drawOps (w.tape w.drawn (.order 44 100))=[1,0]):
  Steps Yq.prog (lone (Frame.enter Yq.prog 44 #[x,y] .normal) cs w) (lone ((base 44).at ⟨iR x y,[]⟩ [.code Yq.b44]) cs {w with drawn:=w.drawn+1}):=by
 refine Steps.trans (pH x y cs w _ _ hr rfl) ?_;generalize({w with drawn:=w.drawn+1}:Wj)=u;have h:LoneTo Yq.prog (λg' w'=>g'=G ((base 44).at ⟨iR x y,[]⟩ [.code Yq.b44]) cs/\w'=u) (G ((base 44).at ⟨iR x y,[]⟩ [.inRegion Yq.drawOps [1,0],.code fy,.code Yq.b44]) cs) u:=by
  refine LoneTo.goes (n:=20) ?_;generalize Yq.b44=bb;unfold iR Yq.drawOps fy
  iterate 4
   refine Goes.step rfl (λw₁ a=>?_);subst a;first
    |((first|rw[stepG_seq] |rw[stepG_region_end]);simp only[goes_go];refine⟨trivial,?_⟩)
    |(refine g6 (λK b=>?_);go_simp;refine b _ _ ⟨trivial,?_⟩;clear b K)
  refine Goes.step rfl (λw₁ a=>?_);subst a;rw[stepG_cond (t:=Z) rfl];simp only[goes_go,Bool.false_eq_true,↓reduceIte];refine⟨trivial,?_⟩;refine Goes.step rfl (λw₁ a=>?_);subst a;rw[stepG_skip];simp only[goes_go];refine⟨trivial,?_⟩;unfold Yq.backOps
  iterate 3
   refine Goes.step rfl (λw₁ a=>?_);subst a;first
    |((first|rw[stepG_region] |rw[stepG_region_end]);simp only[goes_go,lZ,lC,lN,zA,List.range,List.range.loop];refine⟨trivial,?_⟩)
    |(refine g6 (λK b=>?_);go_simp;refine b _ _ ⟨trivial,?_⟩;clear b K)
  refine Goes.stop (λw₁ a=>?_);subst a;exact LoneTo.done ⟨rfl,rfl⟩
 obtain⟨g',w',hs,rfl,rfl⟩:=h;exact hs
theorem sJ(x y:Wx)(cs:List Wy)(w:Wj)(hr:Region.schedule (Yq.prog.follows .mixedOrders) Yq.drawOps (w.tape w.drawn (.order 44 100))=[0,1]):
  ∃fr,Steps Yq.prog (lone (Frame.enter Yq.prog 44 #[x,y] .normal) cs w) (lone fr cs {w with drawn:=w.drawn+1})/\fr.mode=.panicking [stopEntry x y]/\fr.defers=[]/\fr.fn=44:=by
 have h0:=pH x y cs w _ _ hr rfl;clear hr;generalize({w with drawn:=w.drawn+1}:Wj)=u at h0 ⊢;have h:LoneTo Yq.prog (λg' w'=>(∃a k,g'=G ((base 44).at a (.inRegion Yq.stopOps [2]::k)) cs/\a.eval (.tmp 11)=.iface 3 (.func (.func 44) #[x,y] #[])/\a.defers=[])/\w'=u) (G ((base 44).at ⟨iR x y,[]⟩ [.inRegion Yq.drawOps [0,1],.code fy,.code Yq.b44]) cs) u:=by
  refine LoneTo.goes (n:=20) ?_;generalize Yq.b44=bb;unfold iR Yq.drawOps fy
  iterate 4
   refine Goes.step rfl (λw₁ h₁=>?_);subst h₁;first
    |((first|rw[stepG_seq] |rw[stepG_region_end]);simp only[goes_go];refine⟨trivial,?_⟩)
    |(refine g6 (λK hK=>?_);go_simp;refine hK _ _ ⟨trivial,?_⟩;clear hK K)
  refine Goes.step rfl (λw₁ h₁=>?_);subst h₁;rw[stepG_cond (t:=Y) rfl];simp only[goes_go,↓reduceIte];refine⟨trivial,?_⟩;unfold Yq.stopOps
  iterate 3
   refine Goes.step rfl (λw₁ h₁=>?_);subst h₁;first
    |(rw[stepG_region];simp only[goes_go,lZ,lC,lN,Nat.reduceAdd,zA,List.range,List.range.loop];refine⟨trivial,?_⟩)
    |(refine g6 (λK hK=>?_);go_simp;refine hK _ _ ⟨trivial,?_⟩;clear hK K)
  refine Goes.stop (λw₁ h₁=>?_);subst h₁;exact LoneTo.done ⟨⟨_,_,rfl,rfl,rfl⟩,rfl⟩
 obtain⟨g',w',hs,⟨⟨tm,df⟩,k,rfl,ha,hd⟩,rfl⟩:=h;refine⟨{(base 44).at ⟨tm,df⟩ (.inRegion Yq.stopOps [2]::k)with mode:=.panicking [stopEntry x y]},Steps.trans h0 (Steps.trans hs (.one (step_lone_go ?_))),rfl,hd,rfl⟩
 have ho : Yq.stopOps[2]? = J { dst := N, op := .panic (.tmp 11), type := 0, pos := "", after := #[], guard := N } := rfl
 rw[stepG_op ho rfl]
 have e : execOp (Act.eval ⟨tm, df⟩) { dst := N, op := .panic (.tmp 11), type := 0, pos := "", after := #[], guard := N } = (do let v ← Instr.panic (Act.eval ⟨tm, df⟩ (.tmp 11)); pure (.value v)) := rfl
 rw[e,ha];rfl
theorem Gm (l:Lst)(k:Int)(cs:List Wy)(W:Wj)(B:Nat)(hB:W.heap.size+7=B){Stop:Wk->Wj->Prop}
    (f:∀i,Stop (G (Frame.enter Tryz.prog 72 #[qV l.vs l.p l.d l.af,sV l.root] .normal) ((base 44).at ⟨kz W.heap.size l k,[]⟩ (.inRegion sH [4]::mD)::cs)) ((pgW W l).at i)):
    Goes Tryz.prog Y AtRel (DB B) Stop 40 (G (Frame.enter Tryz.prog 44 #[lV l,I .i64 k] .normal) cs) W:=by
  obtain⟨num,root,vs,p,d,af,size,left⟩:=l;unfold lV aM;rw[enter_at _ func44 rfl]
  walk_nrmf Tryz.f44
  refine Goes.step rfl (λw₁ a=>?_);obtain⟨i,b⟩:=a;subst b
  try simp only[alloc_at,setCell_at,iQ]
  rw[stepG_seq];simp only[goes_go];refine⟨λe c=>by simp at c,?_⟩
  repeat
    refine Goes.step rfl (λw₁ a=>?_);obtain⟨i,b⟩:=a;subst b
    try simp only[alloc_at,iQ]
    first
      |(rw[stepG_seq];simp only[goes_go];refine⟨λe c=>by simp at c,?_⟩)
      |(rw[stepG_region];simp only[goes_go,lZ,lC,lN,Nat.reduceAdd,zA,List.range,List.range.loop];refine⟨λe c=>by simp at c,?_⟩)
      |(rw[stepG_region_end];simp only[goes_go];refine⟨λe c=>by simp at c,?_⟩)
      | (refine g6 (fun K m => ?_)
         go_simp
         refine m _ _ ⟨λe c=>?_,?_⟩
         . have j:=mem_listed c
           simp[go_sem, *]at j;all_goals first
             |(subst j;exact evL_cell _ _ (λh=>h) (by simp<;>omega))
             |(rcases j with rfl|rfl|rfl|rfl<;>exact evL_cell _ _ (λh=>h) (by simp<;>omega))
         clear m K)
  refine Goes.step rfl (λw₁ a=>?_);obtain⟨i,b⟩:=a;subst b
  try simp only[iQ]
  refine goes_call rfl rfl (by decide) rfl func72 rfl rfl ⟨λe c=>by simp at c,?_⟩
  walk_nrmf Tryz.f72
  refine Goes.stop (λw₁ a=>?_);obtain⟨i,b⟩:=a;subst b;have:=f i;rw[enter_at _ func72 rfl]at this;exact this
structure Boxes (w:Wj)(bo bq bs c:Nat)(root:Option Wu)(vs:Bool)(p d af:ByteArray):Prop where
 out:w.cell? ⟨bo,0,N⟩=J (.chan (J c))
 q0:w.cell? ⟨bq,0,N⟩=J (C vs)
 q1:w.cell? ⟨bq,1,N⟩=J (U p)
 q2:w.cell? ⟨bq,2,N⟩=J (U d)
 q3:w.cell? ⟨bq,3,N⟩=J (U af)
 st:w.cell? ⟨bs,0,N⟩=J (O root)
noncomputable def mE:Array Oper:=oW (dh (bV Tryz.f94))
def qL(c:Nat)(d:Deferred):Prop:=∃at_ t k,d={target:=.builtin .close at_ t k,args:=#[.chan (J c)]}
theorem DU{P:Wv}{d:Array Oper}{a:Act}{w w':Wj}{i:Nat}{c:List Nat}{o:Oper}{df:Deferred}{fr:Wy}{k:List Item}{cs:List Wy}(f:d[i]?=J o)(h:Region.wanted o (yielded d a.tmps)=Y)(hr:(execOp a.eval o).run P w=.ok (.defer df) w'):
  step P (lone (fr.at a (.inRegion d (i::c)::k)) cs w)=.next (lone (fr.at ({a with defers:=df::a.defers}.put o.dst Wo) (.inRegion d c::k)) cs w'):=by
 have j:=stepG_op (P:=P) (b:=fr) (k:=k) (cs:=cs) (w:=w) (rest:=c) f h;have e:({fr.at a (.inRegion d (i::c)::k)with defers:=df::a.defers}:Wy).finish Wo=fr.at ({a with defers:=df::a.defers}.put o.dst Wo) (.inRegion d c::k):=by
  have:=Frame.finish_at fr {a with defers:=df::a.defers} d i c k Wo;rw[f]at this;exact this
 refine step_lone_go ?_;rw[j];simp only[stepG.apply,Sem.runT_eq,hr,GStep.bare_after];exact congrArg (λl=>GStep.go {frame:=l,callers:=cs,status:=.running,dying:=N} w') e
theorem Gn{bo j c:Nat}{f:Option Wu}{l:Bool}{p d k:ByteArray}{w:Wj}(o:Boxes w bo j m c f l p d k)(cs:List Wy):
  ∃a e,Steps Yq.prog (lone (Frame.enter Yq.prog 94 #[ptr bo,ptr j,ptr m] .normal) cs w) (lone ((base 94).at ⟨a,[e]⟩ [.inRegion mE [3]]) cs w)/\qL c e/\Act.eval ⟨a,[e]⟩ (.tmp 4)=qV l p d k/\Act.eval ⟨a,[e]⟩ (.tmp 5)=sV f/\Act.eval ⟨a,[e]⟩ (.tmp 6)=.chan (J c):=by
 obtain⟨ho,h0,h1,h2,h3,h4⟩:=o;have h:LoneTo Yq.prog (λg' w'=>∃a e,(g'=G ((base 94).at ⟨a,[e]⟩ [.inRegion mE [3]]) cs/\w'=w)/\qL c e/\Act.eval ⟨a,[e]⟩ (.tmp 4)=qV l p d k/\Act.eval ⟨a,[e]⟩ (.tmp 5)=sV f/\Act.eval ⟨a,[e]⟩ (.tmp 6)=.chan (J c)) (G (Frame.enter Yq.prog 94 #[ptr bo,ptr j,ptr m] .normal) cs) w:=by
  refine LoneTo.goes (n:=20) ?_;unfold ptr;rw[enter_at _ (Yq.nq func94) rfl]
  walk_nrmf Tryz.f94
  iterate 3
   refine Goes.step rfl (λw₁ b=>?_);subst b;first
    |((first|rw[stepG_seq] |rw[stepG_region]);simp only[goes_go,lZ,lC,lN,Nat.reduceAdd,zA,List.range,List.range.loop];refine⟨trivial,?_⟩)
    |(refine g6 (λK i=>?_);go_simp;refine i _ _ ⟨trivial,?_⟩;clear i K)
  refine Goes.stop (λw₁ b=>?_);subst b;refine LoneTo.step (DU (w':=w) (df:={target:=.builtin .close #[180] 0 #[Z],args:=#[.chan (J c)]}) rfl rfl (by simp[go_sem,Act.eval])) ?_;show LoneTo Yq.prog _ (G _ cs) w;refine LoneTo.goes (n:=20) ?_
  walk_nrm
  iterate 5
   refine Goes.step rfl (λw₁ b=>?_);subst b;first
    |((first|rw[stepG_region] |rw[stepG_region_end]);simp only[goes_go,lZ,lC,lN,Nat.reduceAdd,zA,List.range,List.range.loop];refine⟨trivial,?_⟩)
    |(refine g6 (λK i=>?_);go_simp;refine i _ _ ⟨trivial,?_⟩;clear i K)
  refine Goes.stop (λw₁ b=>?_);subst b;exact LoneTo.done ⟨_,_,⟨rfl,rfl⟩,⟨_,_,_,rfl⟩,rfl,rfl,rfl⟩
 obtain⟨g',w',hs,a,e,⟨rfl,rfl⟩,hr⟩:=h;exact⟨a,e,hs,hr⟩
theorem sK{bo bq bs c:Nat}{root:Option Wu}{vs:Bool}{p d af:ByteArray}{w:Wj}(hb:Boxes w bo bq bs c root vs p d af){Q:Wj->Prop}
  (hsend:Calls Yq.prog 95 #[qV vs p d af,sV root,.chan (J c)] w λe w'=>e=.returned (.tuple #[])/\Q w') (cs:List Wy):
  ∃fr w' df,Steps Yq.prog (lone (Frame.enter Yq.prog 94 #[ptr bo,ptr bq,ptr bs] .normal) cs w) (lone fr cs w')/\fr.fn=94/\fr.mode=.returning/\fr.defers=[df]/\qL c df/\fr.kind=.normal/\fr.roundOf=N/\Q w':=by
 have⟨a,df,hs,hc,h4,h5,h6⟩:=Gn hb cs;obtain⟨e,w',fr,⟨rfl,hQ⟩,hcome,-,hlv⟩:=hsend ((base 94).at ⟨a,[df]⟩ [.inRegion mE [3]]::cs)
 have ho : mE[3]? = J { dst := J 7, op := .call { callee := .value (.func 95), args := #[.tmp 4, .tmp 5, .tmp 6], argTypes := #[74, 33, 197] }, type := 0, pos := "items.go:24", after := #[{ on := 0, ground := .data }, { on := 1, ground := .data }, { on := 2, ground := .data }], guard := N } := rfl
 have hen:step Yq.prog (lone ((base 94).at ⟨a,[df]⟩ [.inRegion mE [3]]) cs w)=.next (lone (Frame.enter Yq.prog 95 #[qV vs p d af,sV root,.chan (J c)] .normal) ((base 94).at ⟨a,[df]⟩ [.inRegion mE [3]]::cs) w):=by
  refine qK ho rfl ?_
  have e := run_call_body (P := Yq.prog) (a := ⟨a, [df]⟩) (w := w) (o := { dst := J 7, op := .call { callee := .value (.func 95), args := #[.tmp 4, .tmp 5, .tmp 6], argTypes := #[74, 33, 197] }, type := 0, pos := "items.go:24", after := #[{ on := 0, ground := .data }, { on := 1, ground := .data }, { on := 2, ground := .data }], guard := N }) rfl (Yq.nq func95) rfl rfl
  have e2:(#[.tmp 4,.tmp 5,.tmp 6]:Array Operand).map (Act.eval ⟨a,[df]⟩)=#[qV vs p d af,sV root,.chan (J c)]:=by
   simp only[List.map_toArray,List.map_cons,List.map_nil,h4,h5,h6]
  rw[e2]at e;exact e
 have hend:Steps Yq.prog (lone (((base 94).at ⟨a,[df]⟩ [.inRegion mE [3]]).finish (.tuple #[])) cs w') (lone {(base 94).at (Act.put ⟨a,[df]⟩ ((mE[3]?).bind (·.dst)) (.tuple #[])) []with mode:=.returning} cs w'):=by
  rw[Frame.finish_at];exact .head step_region_end (.one step_end)
 exact⟨_,w',df,Steps.trans hs (.head hen (Steps.trans hcome (.head (step_leave_returned hlv) hend))),rfl,rfl,rfl,hc,rfl,rfl,hQ⟩
theorem yQ{P:Wv}{fr:Wy}{cs:List Wy}{w:Wj}{c n s q:Nat}{f:Bool}{i:Deferred}(l:fr.mode=.returning)(j:fr.defers=[i])(m:qL c i)(e:w.heap[c]?=J (.chan n c' Z s q f)):
  step P (lone fr cs w)=.next (lone {fr with defers:=[]} cs (eA w c n c' s q f)):=by
 obtain⟨at_,t,k,rfl⟩:=m;have h:stepG P Y (G fr cs) w=.go (G {fr with defers:=[]} cs) (eA w c n c' s q f) (seen P fr.fn #[⟨.obj c,Z,Y⟩,⟨.obj c,Y,Y⟩]):=by
  simp only[stepG,G,l,unwind,j];unfold callDeferred;simp only[sF at_ t k e];simp[GStep.after]
 exact step_solo_go (a:=G fr cs) rfl h
theorem yR{fr:Wy}{w:Wj}(c:fr.fn=94)(b:fr.mode=.returning)(a:fr.defers=[])(d:fr.kind=.normal):fr.leaving Yq.prog w (.returned (.tuple #[])):=by
 refine⟨b,a,d,Tryz.f94,by rw[c];exact(Yq.nq func94),?_⟩;unfold results;rw[show Tryz.f94.results=#[]from rfl,Array.mapM_eq_mapM_toList];rfl
theorem sM{root root0:Option Wu}{vs:Bool}{p d af:ByteArray}{w:Wj}(hb:Boxes w (n0+3) n0 (n0+1) (n0+2) root vs p d af){Q:Wj->Prop}{L:Array Wx}{s q:Nat}
  (hsend:Calls Yq.prog 95 #[qV vs p d af,sV root,.chan (J (n0+2))] w λe w'=>e=.returned (.tuple #[])/\Q w'/\w'.heap[n0+2]?=J (.chan m L Z s q Z)) (cs:List Wy):
  ∃w',Q w'/\w'.heap[n0+2]?=J (.chan m L Z s q Z)/\Steps Yq.prog (lone (Frame.enter Yq.prog 94 #[ptr (n0+3),ptr n0,ptr (n0+1)] .normal) (eP n0 root0 vs p d af (ew n0) [1,2]::cs) w) (lone (eP n0 root0 vs p d af Wo []) cs (eA w' (n0+2) m L s q Z)):=by
 have⟨fr,w',df,hs,hf,hm,hd,hc,hk,hr,hQ,hrow⟩:=sK hb hsend (eP n0 root0 vs p d af (ew n0) [1,2]::cs);refine⟨w',hQ,hrow,Steps.trans hs (.head (yQ hm hd hc hrow) (.head (step_leave_returned (yR (fr:={fr with defers:=[]}) hf hm rfl hk)) ?_))⟩;have e:(eP n0 root0 vs p d af (ew n0) [1,2]).finish (.tuple #[])=eP n0 root0 vs p d af (ew n0) [2]:=by
  unfold eP;rw[Frame.finish_at];rfl
 rw[e];unfold eP
 have := vC (P := Yq.prog) (ops := Yq.itemsOps2) (a := ⟨fx n0 root0 vs p d af (ew n0), []⟩) (i := 2) (rest := []) (b := base 72) (k := [.code jB]) (cs := cs) (w := eA w' (n0 + 2) m L s q Z) (w' := eA w' (n0 + 2) m L s q Z) (v := Wo) (o := { dst := J 7, op := .move (.const Wo), type := 0, pos := "", after := #[], guard := N }) rfl rfl (by simp[go_sem, Act.eval])
 exact .one this
def cIn:Code->Code
 | .block _ b=>b
 | .loop b=>b
 |c=>c
noncomputable def cU:Code:=cIn (cIn (dh (iz cf)))
noncomputable def eT:Array Oper:=oW (iz cU)
noncomputable def Gp:List Item:=[.code (dh cU),.inLoop cU,.inBlock 0,.code (dh cf)]
noncomputable def kC(a:Act)(r:List Nat):Wy:=(base 44).at a (.inRegion eT r::Gp)
def Gq(n:Nat)(l:Lst)(a:Int)(c:Nat):Array Wx:=
 #[lV l,I K a,ptr n,Wo,ptr (n+1),ptr (n+2),I K (IntKind.i64.wrap (a*l.size)),I K 0,Wo,I K a,O (J ⟨n,6,N⟩),I K l.size,I K (IntKind.i64.wrap (a*l.size)),O (J ⟨n,2,N⟩),qV l.vs l.p l.d l.af,O (J ⟨n,1,N⟩),sV l.root,.chan (J c),Wo,Wo,Wo,Wo,Wo,Wo,Wo,Wo,Wo,Wo,Wo,Wo,Wo,Wo,Wo,Wo,Wo,Wo,Wo,Wo,Wo,Wo,Wo,Wo,Wo,Wo,Wo,Wo,Wo,Wo,Wo]
noncomputable def pF(n:Nat)(l:Lst)(a:Int):Wy:=(base 44).at ⟨kz n l a,[]⟩ (.inRegion sH [4]::mD)
noncomputable def pF2(n:Nat)(l:Lst)(a:Int)(c:Nat):Wy:=(base 44).at ⟨Gq n l a c,[]⟩ (.inRegion sH []::mD)
theorem A9(n c:Nat)(l:Lst)(e:Int)(cs:List Wy)(w:Wj)(b:Option Wu)(hout:w.cell? ⟨c+3,0,N⟩=J (.chan (J (c+2)))):
  Steps Yq.prog (lone (eP c b l.vs l.p l.d l.af Wo []) (pF n l e::cs) w) (lone (pF2 n l e (c+2)) cs w):=by
 have h:LoneTo Yq.prog (λg' w'=>g'=G (pF2 n l e (c+2)) cs/\w'=w) (G (eP c b l.vs l.p l.d l.af Wo []) (pF n l e::cs)) w:=by
  obtain⟨num,root,vs,p,d,af,size,left⟩:=l;refine LoneTo.goes (n:=30) ?_;unfold pF eP fx kz mD qV sV ptr lV aM;dsimp only[jB,bV,Tryz.f72,sH,cf,Tryz.f44,iz,dh,oW,Option.getD]
  iterate 6
   refine Goes.step rfl (λw₁ a=>?_);subst a;first
    |((first|rw[stepG_seq] |rw[stepG_region] |rw[stepG_region_end]);simp only[goes_go,lZ,lC,lN,Nat.reduceAdd,zA,List.range,List.range.loop];refine⟨trivial,?_⟩)
    |(refine g6 (λK f=>?_);go_simp;refine f _ _ ⟨trivial,?_⟩;clear f K)
  refine Goes.step rfl (λw₁ a=>?_);subst a;rw[stepG_ret'];simp only[goes_go];refine⟨trivial,?_⟩;refine Goes.step rfl (λw₁ a=>?_);subst a;refine goes_leave1 rfl rfl Yq.func72 rfl ⟨trivial,?_⟩
  walk_nrm
  refine Goes.stop (λw₁ a=>?_);subst a;exact LoneTo.done ⟨rfl,rfl⟩
 obtain⟨g',w',hs,rfl,rfl⟩:=h;exact hs
theorem vD(n h:Nat)(l:Lst)(m:Int)(cs:List Wy)(w:Wj)(i:Option Wu)(c:w.cell? ⟨h+3,0,N⟩=J (.chan (J (h+2)))):
  Alone Tryz.prog (h+3) (G (pF2 n l m (h+2)) cs) 12 (G ((base 72).at ⟨fx h i l.vs l.p l.d l.af (ew h),[]⟩ [.inRegion vB [],.code jB]) (pF n l m::cs)) w:=by
 obtain⟨num,root,vs,p,d,af,size,left⟩:=l;unfold Alone pF fx kz mD qV sV ptr lV aM;dsimp only[vB,jB,bV,Tryz.f72,sH,cf,Tryz.f44,iz,dh,oW,Option.getD];refine Goes.step rfl (λw₁ b=>?_);replace c:=(cB (a:=⟨h+3,0,N⟩) b).trans c;clear b;rw[stepG_region_end];simp only[goes_go];refine⟨⟨by trivial,λe f=>by simp at f⟩,?_⟩;refine Goes.step rfl (λw₁ b=>?_);replace c:=(cB (a:=⟨h+3,0,N⟩) b).trans c;clear b;rw[stepG_seq];simp only[goes_go];refine⟨⟨by trivial,λe f=>by simp at f⟩,?_⟩;refine Goes.step rfl (λw₁ b=>?_);replace c:=(cB (a:=⟨h+3,0,N⟩) b).trans c;clear b;rw[stepG_region];simp only[goes_go,lZ,lC,lN,Nat.reduceAdd,zA,List.range,List.range.loop];refine⟨⟨by trivial,λe f=>by simp at f⟩,?_⟩;refine Goes.step rfl (λw₁ b=>?_);replace c:=(cB (a:=⟨h+3,0,N⟩) b).trans c;clear b;refine g6 (λK k=>?_)
 go_simp
 refine k _ _ ⟨⟨rfl,λe f=>?_⟩,?_⟩
 .have j:=mem_listed f;simp[go_sem, *]at j
  try(subst j;exact⟨_,rfl,rfl⟩)
 clear k K;refine Goes.step rfl (λw₁ b=>?_);replace c:=(cB (a:=⟨h+3,0,N⟩) b).trans c;clear b;refine g6 (λK k=>?_)
 go_simp
 refine k _ _ ⟨⟨rfl,λe f=>?_⟩,?_⟩
 .have j:=mem_listed f;simp[go_sem, *]at j
  try(subst j;exact⟨_,rfl,rfl⟩)
 clear k K;refine Goes.step rfl (λw₁ b=>?_);replace c:=(cB (a:=⟨h+3,0,N⟩) b).trans c;clear b;rw[stepG_region_end];simp only[goes_go];refine⟨⟨by trivial,λe f=>by simp at f⟩,?_⟩;refine Goes.step rfl (λw₁ b=>?_);replace c:=(cB (a:=⟨h+3,0,N⟩) b).trans c;clear b;rw[stepG_ret'];simp only[goes_go];refine⟨⟨by trivial,λe f=>by simp at f⟩,?_⟩;refine Goes.step rfl (λw₁ b=>?_);replace c:=(cB (a:=⟨h+3,0,N⟩) b).trans c;clear b;refine goes_leave1 rfl rfl func72 rfl ⟨⟨by trivial,λe f=>by simp at f⟩,?_⟩
 walk_nrm
 exact Goes.stop (λw₁ b=>rfl)
end
