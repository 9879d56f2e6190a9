/- Part of a proof. -/
import Derived.Test.YtnapepbdohidgaaGreatDoorQM06
set_option maxHeartbeats 4000000
set_option maxRecDepth 100000
namespace Go.Proofs.YtnapepbdohidgaaGreatDoorQ
section
open Go
theorem mi (f:Frame)(v:Value):(f.finish v).kind=f.kind:=by
 unfold Frame.finish;split<;>rfl
theorem nB (f:Frame)(c:List PanicEntry):(f.raise c).kind=f.kind:=by
 unfold Frame.raise;split<;>rfl
theorem p8 (f:Frame)(v:Value):(f.finish v).roundOf=f.roundOf:=by
 unfold Frame.finish;split<;>rfl
theorem sa (f:Frame)(c:List PanicEntry):(f.raise c).roundOf=f.roundOf:=by
 unfold Frame.raise;split<;>rfl
theorem Kd.finish {X:List Frame×List Frame}{f f':Frame}{l:List Frame}(h:Kd X f f' l)(v v':Value):Kd X (f.finish v) (f'.finish v') l:=⟨fun k=>by rw [mi,mi];exact h.1 k,fun k=>by rw [p8];exact h.2 k⟩
theorem Kd.raise {X:List Frame×List Frame}{f f':Frame}{l:List Frame}(h:Kd X f f' l)(c c':List PanicEntry):Kd X (f.raise c) (f'.raise c') l:=⟨fun k=>by rw [nB,nB];exact h.1 k,fun k=>by rw [sa];exact h.2 k⟩
theorem Kd.push {P:Program}{ρ:Ren}{X:List Frame×List Frame}{f f' g:Frame}{l l':List Frame}(hl:RFs P ρ X l l')(h:f.kind=f'.kind):Kd X f f' (g::l'):=⟨fun _=>h,fun k=>absurd k hl.ne⟩
section
variable {P:Program} {ρ:Ren} {X:List Frame×List Frame} {w w':World}
theorem RPn.append {l l' k k':List PanicEntry}(h:RPn ρ l l')(hk:RPn ρ k k'):RPn ρ (l++k) (l'++k'):=by
 induction h with
 |nil=>exact hk
 |cons r g h _ ih=>exact .cons r g h ih
theorem RFr.raise {f f':Frame}(h:RFr P ρ f f'){c c':List PanicEntry}(hv:RPn ρ c c'):RFr P ρ (f.raise c) (f'.raise c'):=by
 unfold Frame.raise;have hm:=h.mode;cases h1:f.mode<;>cases h2:f'.mode<;>rw [h1,h2] at hm<;>cases hm
 ·exact ⟨h.fn,h.tmps,h.todo,h.defers,.panicking hv,h.early,h.round⟩
 ·exact ⟨h.fn,h.tmps,h.todo,h.defers,.panicking hv,h.early,h.round⟩
 ·rename_i hl;exact ⟨h.fn,h.tmps,h.todo,h.defers,.panicking (hv.append hl),h.early,h.round⟩
theorem RFr.raise1 {f f':Frame}(h:RFr P ρ f f'){v v':Value}(hv:RV ρ v v'):RFr P ρ (f.raise [{v,recovered:=false}]) (f'.raise [{v:=v',recovered:=false}]):=h.raise (.cons _ _ hv .nil)
theorem RIs.no_call {l l':List Item}(h:RIs P ρ l l'):(∀d b r s k,l≠.call d b r s::k)/\(∀d b r s k,l'≠.call d b r s::k):=by
 cases h with
 |nil=>exact ⟨fun _ _ _ _ _ e=>by simp at e,fun _ _ _ _ _ e=>by simp at e⟩
 |cons h _=>cases h<;>exact ⟨fun _ _ _ _ _ e=>by simp at e,fun _ _ _ _ _ e=>by simp at e⟩
theorem vk [Two P](hI:GId P ρ)(f:FuncId):(P.alt.funcs[f]?).any (·.norace)=(P.funcs[f]?).any (·.norace):=by
 have h:=hI.same f;generalize P.alt.funcs[f]?=a at h;generalize P.funcs[f]?=b at h;cases a<;>cases b<;>simp [strip] at h ⊢
 exact h.2.2.2.2.2.2.2.2.2.1
theorem dk [Two P](hI:GId P ρ)(f:FuncId)(es:Array Event):seen P.alt f es=seen P f es:=by
 unfold seen;simp only [vk hI]
theorem se {f f':Frame}(h:RFr P ρ f f'):Frame.noResult P f=Frame.noResult P f':=by
 have ht:=h.todo;unfold Frame.noResult Frame.oper?;generalize f.todo=td at ht;generalize f'.todo=td' at ht;cases ht with
 |nil=>rfl
 |cons hi hk=>
  cases hi with
  |inRegion l h=>cases l<;>rfl
  |_=>rfl
def iZ (p:Program)(fr:Frame)(cs:List Frame):Result Next->Array Event->GStep
 | .ok a u,es=>GStep.after (seen p fr.fn es) (stepG.apply p true fr cs none (.pure a) u)
 | .halt a u,es=>GStep.after (seen p fr.fn (pY a es)) (stepG.apply p true fr cs none (.halt a) u)
theorem ll (p:Program)(fr:Frame)(hk:(fr.kind == .early)=false)(cs:List Frame)(s:Sem Next)(u:World):stepG.apply p true fr cs none s u=iZ p fr cs (s.runT p u #[]).1 (s.runT p u #[]).2:=by
 cases hr:s.runT p u #[] with
 |mk r es=>
  cases r with
  |ok a v=>rw [Ad hr];simp only [hk,iZ];rfl
  |halt a v=>rw [vj hr];simp only [hk,iZ];rfl
theorem fP (p:Program)(fr:Frame)(cs:List Frame)(f:FuncId)(a:Array Value)(u:World)(h:∀d b r s k,fr.todo≠.call d b r s::k):stepG.apply p true fr cs none (.pure (.enter f a)) u=.go {frame:=Frame.enter p f a .normal,callers:=fr::cs,status:=.running,dying:=none} u:=by
 have sn:∀ (p:Program) (f:FuncId) (k:CallKind),seen p f (if k == .early then #[] else #[])=#[]:=fun p f k=>by split<;>exact eT _ _
 simp only [stepG.apply,Sem.runT,if_true,sn,bP];split
 ·rename_i d r s k e;exact absurd e (h d true r s k)
 ·rfl
variable [Two P]
theorem oD (hI:GId P ρ){ρ':Ren}{u u':World}(R:Reach ρ ρ' w w' u u'){fr fr':Frame}(hf:RFr P ρ' fr fr'){cs cs':List Frame}(hc:RFs P ρ' X cs cs')(hkd:Kd X fr fr' cs'){a b:Next}(h:RX ρ' a b)(E:Array Event){E':Array Event}(hE:∀e∈E',ie ρ' e):
  rI u (fun u=>GStep.after E (stepG.apply P true fr cs none (.pure a) u))/\SR P ρ X w w' (GStep.after E (stepG.apply P true fr cs none (.pure a) u)) (GStep.after E (stepG.apply P.alt true fr cs none (.pure a) u)) (GStep.after E' (stepG.apply P true fr' cs' none (.pure b) u')):=by
 have hI':=hI.mono R.le;have ev:∀e∈E'++#[],ie ρ' e:=by simpa using hE
 have sn:∀ (p:Program) (f:FuncId) (k:CallKind),seen p f (if k == .early then #[] else #[])=#[]:=fun p f k=>by split<;>exact eT _ _
 cases h with
 |value hv=>
  simp only [stepG.apply,Sem.runT,if_true,sn,bP];exact ⟨aI _ (ce _ _ _),.inr (.inl ⟨rfl,.go _ ρ' R ⟨hf.finish hv,hc,hkd.finish _ _,⟨rfl,rfl⟩,⟨rfl,rfl⟩,rfl,rfl⟩ ev⟩)⟩
 |skip=>
  simp only [stepG.apply,Sem.runT,if_true,sn,bP];exact ⟨aI _ (ce _ _ _),.inr (.inl ⟨rfl,.go _ ρ' R ⟨hf.finish cD,hc,hkd.finish _ _,⟨rfl,rfl⟩,⟨rfl,rfl⟩,rfl,rfl⟩ ev⟩)⟩
 |enter f hF ha=>
  simp only [fP _ _ _ _ _ _ hf.todo.no_call.1,fP _ _ _ _ _ _ hf.todo.no_call.2];refine ⟨aI _ (ce _ _ _),.inr (.inl ⟨?_,.go _ ρ' R ⟨RFr.enter hI' f hF _ rfl (by simp) ha,.cons hf hkd hc,Kd.push hc rfl,⟨rfl,rfl⟩,⟨rfl,rfl⟩,rfl,rfl⟩ ev⟩)⟩;rw [pW hI' f hF]
 |round hl f ht a b ha hb=>
  simp only [stepG.apply,Sem.runT,if_true,sn,bP];refine ⟨aI _ (ce _ _ _),.inr (.inl ⟨rfl,.go _ ρ' R ⟨⟨rfl,ht,?_,.nil,.run,⟨rfl,rfl,by simp [Frame.round]⟩,.some hl⟩,.cons hf hkd hc,Kd.push hc rfl,⟨rfl,rfl⟩,⟨rfl,rfl⟩,rfl,rfl⟩ ev⟩)⟩;rw [hI'.prog] at ha hb;exact .cons (.code ha) (.cons .beginRound (.cons (.code hb) .nil))
 | @defer hS d d' hd=>
  simp only [stepG.apply,Sem.runT,if_true,sn,bP];have hf2:RFr P ρ' {fr with defers:=d::fr.defers} {fr' with defers:=d'::fr'.defers}:=⟨hf.fn,hf.tmps,hf.todo,.cons hd hf.defers (.inr hS),hf.mode,hf.early,hf.round⟩;exact ⟨aI _ (ce _ _ _),.inr (.inl ⟨rfl,.go _ ρ' R ⟨hf2.finish cD,hc,(show Kd X {fr with defers:=d::fr.defers} {fr' with defers:=d'::fr'.defers} cs' from hkd).finish _ _,⟨rfl,rfl⟩,⟨rfl,rfl⟩,rfl,rfl⟩ ev⟩)⟩
 | @spawn hC d d' hd=>
  simp only [stepG.apply,Sem.runT,if_true,sn,bP];have e2:Frame.noResult P fr=Frame.noResult P fr':=se hf;have e3:Frame.noResult P.alt fr=Frame.noResult P fr:=rfl;have hk:RFr P ρ' {(default:Frame) with fn:=P.funcs.size,defers:=[d],mode:=.panicking [goexitEntry]} {(default:Frame) with fn:=P.funcs.size,defers:=[d'],mode:=.panicking [goexitEntry]}:=
   {fn:=rfl,tmps:=RVs.nil,todo:=.nil,defers:=RDs.cons hd RDs.nil (.inr (by rw [hC,Bool.or_true])),mode:=RM.panicking (RPn.cons _ _ cD RPn.nil),early:=⟨rfl,rfl,by simp [default,instInhabitedFrame.default,instInhabitedCallKind.default]⟩,round:=.none}
  have fin:SR P ρ X w w' (GStep.after E (.spawn {frame:=fr.finish undef,callers:=cs,status:=.running,dying:=none} {frame:={(default:Frame) with fn:=P.funcs.size,defers:=[d],mode:=.panicking [goexitEntry]},callers:=[],status:=.running,dying:=none} u)) (GStep.after E (.spawn {frame:=fr.finish undef,callers:=cs,status:=.running,dying:=none} {frame:={(default:Frame) with fn:=P.alt.funcs.size,defers:=[d],mode:=.panicking [goexitEntry]},callers:=[],status:=.running,dying:=none} u)) (GStep.after E' (.spawn {frame:=fr'.finish undef,callers:=cs',status:=.running,dying:=none} {frame:={(default:Frame) with fn:=P.funcs.size,defers:=[d'],mode:=.panicking [goexitEntry]},callers:=[],status:=.running,dying:=none} u')):=
   .inr (.inl ⟨by rw [hI'.size],.spawn (by rw [<-R.le.F];exact hC) _ ρ' R ⟨hf.finish cD,hc,hkd.finish _ _,⟨rfl,rfl⟩,⟨rfl,rfl⟩,rfl,rfl⟩ ⟨hk,.base,⟨fun _=>rfl,fun _=>rfl⟩,⟨rfl,rfl⟩,⟨rfl,rfl⟩,rfl,rfl⟩ ev⟩)
  have lost : ∀ (fr : Frame) (u : World), Lost (endThrow fr "go of nil func value" u) := fun fr u => by unfold endThrow dieOf; exact ⟨⟨_, _, rfl, rfl, rfl⟩, rfl⟩
  cases hd with
  |odd=>
   simp only [Bool.and_false,Bool.false_and,Bool.false_eq_true,if_false];exact ⟨aI _ (jC _ (.spawn _ _) _),fin⟩
  |mk ht ha=>
   have hs:=ha.size;obtain ⟨t,a⟩:=d;obtain ⟨t',a'⟩:=d';simp only at hs ht;have e1:a.isEmpty=a'.isEmpty:=by simp only [Array.isEmpty,hs]
   cases ht with
   |nil=>
    dsimp only;rw [<-e1,<-e2,e3];have ef:P.alt.follows .goNilFatal=P.follows .goNilFatal:=rfl;rw [ef];by_cases hx:(P.follows .goNilFatal&&true&&a.isEmpty&&Frame.noResult P fr)=true
    ·simp only [hx,if_true];exact ⟨iD _ _ ((lost _ _).after _).noShp,.inl ⟨(lost _ _).after _,(lost _ _).after _⟩⟩
    ·simp only [hx];exact ⟨aI _ (jC _ (.spawn _ _) _),fin⟩
   |_=>
    simp only [Bool.and_false,Bool.false_and,Bool.false_eq_true,if_false];exact ⟨aI _ (jC _ (.spawn _ _) _),fin⟩
theorem nj (hI:GId P ρ){ρ':Ren}{u u':World}(R:Reach ρ ρ' w w' u u'){fr fr':Frame}(hf:RFr P ρ' fr fr'){cs cs':List Frame}(hc:RFs P ρ' X cs cs')(hkd:Kd X fr fr' cs'){a b:Next}(h:RX1 ρ' a b)(E:Array Event){E':Array Event}(hE:∀e∈E',ie ρ' e):
  rI u (fun u=>GStep.after E (stepG.apply P true fr cs none (.pure a) u))/\SR P ρ X w w' (GStep.after E (stepG.apply P true fr cs none (.pure a) u)) (GStep.after E (stepG.apply P.alt true fr cs none (.pure a) u)) (GStep.after E' (stepG.apply P true fr' cs' none (.pure b) u')):=by
 cases h with
 |of h=>exact oD hI R hf hc hkd h E hE
 | @mk f hM a a' ha hs2=>
  simp only [fP _ _ _ _ _ _ hf.todo.no_call.1,fP _ _ _ _ _ _ hf.todo.no_call.2];refine ⟨aI _ (ce _ _ _),.inr (.inr ⟨f,ρ',a,a',fr,fr',cs,cs',u,u',E++#[],E'++#[],⟨by rw [<-R.le.F];exact hM,R,⟨ha,hs2⟩,hf,hc,hkd,by simpa using hE,rfl,rfl,rfl⟩⟩)⟩
theorem ik (hI:GId P ρ){fr fr':Frame}(hf:RFr P ρ fr fr'){cs cs':List Frame}(hc:RFs P ρ X cs cs')(hkd:Kd X fr fr' cs'){s s':Sem Next}(hs:RS P RX1 ρ s s')(S:br ρ w w')(hd:Same w w'):
  SF P ρ X w w' (fun u=>stepG.apply P true fr cs none s u) (fun u=>stepG.apply P.alt true fr cs none s u) (stepG.apply P true fr' cs' none s' w'):=by
 have hk':(fr'.kind == .early)=false:=hf.early.2.1;refine fO (mh hs S hd (F:=iZ P fr cs) (Fa:=iZ P.alt fr cs) (F':=iZ P fr' cs') ?_ ?_ ?_) (fun u=>ll P fr hf.early.1 cs s u) (fun u=>ll P.alt fr hf.early.1 cs s u) (ll P fr' hk' cs' s' w')
 ·intro h u es hn;have key:∀p:Program,Lost (iZ p fr cs (.halt h u) es):=fun p=>by
   refine Lost.after ?_ _;unfold stepG.apply;simp only [Sem.runT,if_true];refine Lost.after ?_ _;cases h with
   |stuck s=>exact trivial
   |unsupported x=>cases x<;>first|exact trivial|simp [dS] at hn
   |throw m=>show Lost (endThrow fr m u);unfold endThrow dieOf;exact ⟨⟨_,_,rfl,rfl,rfl⟩,rfl⟩
   |_=>simp [dS] at hn
  exact ⟨key P,key P.alt⟩
 ·intro ρ' u u' a b es es' R hq he;obtain ⟨k1,k2⟩:=nj hI R (hf.mono R.le) (hc.mono R.le) hkd hq (seen P fr.fn es) (E':=seen P fr'.fn es') (fun e h=>he e (dz h));refine ⟨k1,?_⟩;show SR P ρ X w w' _ (GStep.after (seen P.alt fr.fn es) (stepG.apply P.alt true fr cs none (.pure a) u)) _;rw [dk hI];exact k2
 ·intro ρ' u u' v v' es es' R hv he;have e1:∀ (p:Program) (f:Frame) (c:List Frame) (x:Value) (z:World),stepG.apply p true f c none (.halt (.panic x)) z=.go {frame:=f.raise [{v:=x,recovered:=false}],callers:=c,status:=.running,dying:=none} z:=fun p f c x z=>by
   have sn:∀ (p:Program) (f:FuncId) (k:CallKind),seen p f (if k == .early then #[] else #[])=#[]:=fun p f k=>by split<;>exact eT _ _
   simp only [stepG.apply,Sem.runT,if_true,sn,bP]
  simp only [iZ,e1,pY,dk hI];exact ⟨aI _ (ce _ _ _),.inr (.inl ⟨rfl,.go _ ρ' R ⟨(hf.mono R.le).raise1 hv,hc.mono R.le,hkd.raise _ _,⟨rfl,rfl⟩,⟨rfl,rfl⟩,rfl,rfl⟩ (fun e h=>he e (dz (by simpa using h)))⟩)⟩
theorem iE (S:br ρ w w'){fr fr':Frame}(hf:RFr P ρ fr fr'){cs cs':List Frame}(hc:RFs P ρ X cs cs')(hkd:Kd X fr fr' cs'){k k':List Item}(hk:RIs P ρ k k'):
  SF P ρ X w w' (fun u=>.go {frame:={fr with todo:=k},callers:=cs,status:=.running,dying:=none} u) (fun u=>.go {frame:={fr with todo:=k},callers:=cs,status:=.running,dying:=none} u) (.go {frame:={fr' with todo:=k'},callers:=cs',status:=.running,dying:=none} w'):=
 Ae ⟨⟨hf.fn,hf.tmps,hk,hf.defers,hf.mode,hf.early,hf.round⟩,hc,hkd,⟨rfl,rfl⟩,⟨rfl,rfl⟩,rfl,rfl⟩ S
omit [Two P] in
theorem vm (id:Nat){k k':List Item}(h:RIs P ρ k k'):(exitTo id k=none/\exitTo id k'=none)\/∃t t',exitTo id k=some t/\exitTo id k'=some t'/\RIs P ρ t t':=by
 induction h with
 |nil=>exact .inl ⟨rfl,rfl⟩
 |cons hi hk ih=>
  cases hi with
  |inBlock id'=>
   unfold exitTo;split
   ·exact .inr ⟨_,_,rfl,rfl,hk⟩
   ·exact ih
  |_=>exact ih
omit [Two P] in
theorem p9 (F:FuncId->Bool)(l:Nat):∀ (c c':Code),aA P F c=true->findLabel c l=some c'->aA P F c'=true:=by
 intro c;induction c with
 |seq a b iha ihb=>
  intro c' h e;simp only [aA,bT] at h;unfold findLabel at e;split at e
  ·rename_i rest hr;cases e;simp only [aA,bT];exact ⟨iha rest h.1 hr,h.2⟩
  ·exact ihb c' h.2 e
 |label l'=>
  intro c' h e;unfold findLabel at e;split at e
  ·cases e;rfl
  ·cases e
 |_=>intro c' h e;simp [findLabel] at e
omit [Two P] in
theorem vn (l:Nat){k k':List Item}(h:RIs P ρ k k'):(gotoIn l k=none/\gotoIn l k'=none)\/∃t t',gotoIn l k=some t/\gotoIn l k'=some t'/\RIs P ρ t t':=by
 induction h with
 |nil=>exact .inl ⟨rfl,rfl⟩
 |cons hi hk ih=>
  cases hi with
  | @inScope body hb=>
   unfold gotoIn;cases hr:findLabel body l with
   |none=>exact ih
   |some rest=>exact .inr ⟨_,_,rfl,rfl,.cons (.code (p9 _ l body rest hb hr)) (.cons (.inScope hb) hk)⟩
  |_=>exact ih
end
section
variable {P:Program} {ρ:Ren} {X:List Frame×List Frame} {w w':World}
theorem nC {c c':Array Value}(h:RVs ρ c c')(ops:Array Oper):yielded ops c=yielded ops c':=by
 funext j;unfold yielded;cases (ops[j]?).bind (·.dst) with
 |none=>rfl
 |some d=>
  simp only [Option.bind_some];rcases h.get d with ⟨h1,h2⟩|⟨v,v',h1,h2,hv⟩
  ·rw [h1,h2]
  ·rw [h1,h2];cases hv with
   |dead v' h=>cases v'<;>first|rfl|simp [gv] at h
   |_=>rfl
theorem RPn.drop {l l':List PanicEntry}(h:RPn ρ l l'):RPn ρ (l.dropWhile (!·.goexit)) (l'.dropWhile (!·.goexit)):=by
 induction h with
 |nil=>exact .nil
 |cons r g h hl ih=>
  cases g with
  |true=>exact .cons r true h hl
  |false=>exact ih
theorem RDs.append {a a' b b':List Deferred}(h:RDs ρ a a')(k:RDs ρ b b'):RDs ρ (a++b) (a'++b'):=by
 induction h with
 |nil=>exact k
 |cons h _ hS ih=>exact .cons h ih hS
variable [Two P]
def Base (X:List Frame×List Frame)(fr:Frame)(cs':List Frame):Prop:=cs'=X.2->fr.mode=.run\/fr.defers≠[]
theorem iF (m:Bool){ρ':Ren}{u u':World}(R:Reach ρ ρ' w w' u u'){fr fr':Frame}(hf:RFr P ρ' fr fr'){cs cs':List Frame}(hc:RFs P ρ' X cs cs')(hkd:Kd X fr fr' cs')(hin:cs'≠X.2){v v':Value}(hv:RV ρ' v v')(E:Array Event){E':Array Event}(hE:∀e∈E',ie ρ' e):
  rI u (fun u=>GStep.after E (doReturn P m fr cs none v u))/\SR P ρ X w w' (GStep.after E (doReturn P m fr cs none v u)) (GStep.after E (doReturn P.alt m fr cs none v u)) (GStep.after E' (doReturn P m fr' cs' none v' u')):=by
 have ev:∀e∈E'++#[],ie ρ' e:=by simpa using hE
 have hke:=hf.early.1;unfold doReturn;rw [<-hkd.1 (.inl hin)];cases hc with
 | @cons c c' l l' hk hk2 hl=>
  cases hkind:fr.kind with
  |normal=>exact ⟨aI _ (ce _ _ _),.inr (.inl ⟨rfl,.go _ ρ' R ⟨hk.finish hv,hl,hk2.finish _ _,⟨rfl,rfl⟩,⟨rfl,rfl⟩,rfl,rfl⟩ ev⟩)⟩
  |wrapped=>exact ⟨aI _ (ce _ _ _),.inr (.inl ⟨rfl,.go _ ρ' R ⟨hk.finish hv,hl,hk2.finish _ _,⟨rfl,rfl⟩,⟨rfl,rfl⟩,rfl,rfl⟩ ev⟩)⟩
  |early=>rw [hkind] at hke;simp at hke
  |_=>
   dsimp only;have hm:=hk.mode;cases h1:Frame.mode _<;>cases h2:Frame.mode _<;>rw [h1,h2] at hm<;>cases hm
   ·exact ⟨aI _ (ce _ _ _),.inr (.inl ⟨rfl,.go _ ρ' R ⟨hk,hl,hk2,⟨rfl,rfl⟩,⟨rfl,rfl⟩,rfl,rfl⟩ ev⟩)⟩
   ·exact ⟨aI _ (ce _ _ _),.inr (.inl ⟨rfl,.go _ ρ' R ⟨hk,hl,hk2,⟨rfl,rfl⟩,⟨rfl,rfl⟩,rfl,rfl⟩ ev⟩)⟩
   ·rename_i hp;cases hp with
    |nil=>exact ⟨aI _ (ce _ _ _),.inr (.inl ⟨rfl,.go _ ρ' R ⟨hk,hl,hk2,⟨rfl,rfl⟩,⟨rfl,rfl⟩,rfl,rfl⟩ ev⟩)⟩
    |cons r g hv2 hl2=>
     cases r with
     |false=>exact ⟨aI _ (ce _ _ _),.inr (.inl ⟨rfl,.go _ ρ' R ⟨hk,hl,hk2,⟨rfl,rfl⟩,⟨rfl,rfl⟩,rfl,rfl⟩ ev⟩)⟩
     |true=>
      dsimp only;have hd:=hl2.drop;generalize List.dropWhile _ _=A at hd ⊢;generalize List.dropWhile _ _=B at hd ⊢;cases hd with
      |nil=>exact ⟨aI _ (ce _ _ _),.inr (.inl ⟨rfl,.go _ ρ' R ⟨⟨hk.fn,hk.tmps,hk.todo,hk.defers,.returning,hk.early,hk.round⟩,hl,hk2,⟨rfl,rfl⟩,⟨rfl,rfl⟩,rfl,rfl⟩ ev⟩)⟩
      |cons r g h hl3=>exact ⟨aI _ (ce _ _ _),.inr (.inl ⟨rfl,.go _ ρ' R ⟨⟨hk.fn,hk.tmps,hk.todo,hk.defers,.panicking (.cons r g h hl3),hk.early,hk.round⟩,hl,hk2,⟨rfl,rfl⟩,⟨rfl,rfl⟩,rfl,rfl⟩ ev⟩)⟩
 |base=>exact absurd rfl hin
theorem lm (hI:GId P ρ)(m:Bool){fr fr':Frame}(hf:RFr P ρ fr fr'){cs cs':List Frame}(hc:RFs P ρ X cs cs')(hkd:Kd X fr fr' cs')(hin:cs'≠X.2)(S:br ρ w w')(hd:Same w w'){l l':Nat}(hl:ρ l l')(j:Option Code)(hj:∀c,j=some c->aA ρ.prog ρ.F c=true):
    SF P ρ X w w' (fun u=>GStep.after (seen P fr.fn ((Instr.endRound l j).runT P u #[]).2) (match ((Instr.endRound l j).runT P u #[]).1 with
        | .ok v w=>doReturn P m fr cs none v w
        | .halt _ w => .ended (.stuck "range over a function: no such loop" (fr.pos P)) w))
      (fun u=>GStep.after (seen P.alt fr.fn ((Instr.endRound l j).runT P.alt u #[]).2) (match ((Instr.endRound l j).runT P.alt u #[]).1 with
        | .ok v w=>doReturn P.alt m fr cs none v w
        | .halt _ w => .ended (.stuck "range over a function: no such loop" (fr.pos P.alt)) w))
      (GStep.after (seen P fr'.fn ((Instr.endRound l' j).runT P w' #[]).2) (match ((Instr.endRound l' j).runT P w' #[]).1 with
        | .ok v w=>doReturn P m fr' cs' none v w
        | .halt _ w => .ended (.stuck "range over a function: no such loop" (fr'.pos P)) w)) := by
  refine mh (rV hl j hj) S hd (F := fun r es => GStep.after (seen P fr.fn es) (match r with
        | .ok v w=>doReturn P m fr cs none v w
        | .halt _ w => .ended (.stuck "range over a function: no such loop" (fr.pos P)) w)) (Fa := fun r es => GStep.after (seen P.alt fr.fn es) (match r with
        | .ok v w=>doReturn P.alt m fr cs none v w
        | .halt _ w => .ended (.stuck "range over a function: no such loop" (fr.pos P.alt)) w)) (F' := fun r es => GStep.after (seen P fr'.fn es) (match r with
        | .ok v w=>doReturn P m fr' cs' none v w
        | .halt _ w => .ended (.stuck "range over a function: no such loop" (fr'.pos P)) w)) ?_ ?_ ?_
  · intro h u es hn
    exact ⟨trivial,trivial⟩
  · intro ρ' u u' a b es es' R hq he
    have:=iF m R (hf.mono R.le) (hc.mono R.le) hkd hin hq (seen P fr.fn es) (E':=seen P fr'.fn es') (fun e h=>he e (dz h));dsimp only;rw [dk hI];exact this
  · intro ρ' u u' v v' es es' R hv he
    exact ⟨iD _ _ (Lost.noShp (Lost.after (x:=.ended _ _) trivial _)),.inl ⟨trivial,trivial⟩⟩
theorem nD (p:Program)(f:Frame)(l:List Frame)(cs:Array CommCase)(b:Bool)(s:CommShape)(u:World):stepG.apply p true f l none (.pure (.comm cs b s)) u=.comm {frame:=f,callers:=l,status:=.running,dying:=none} cs b s u #[]:=by
 have sn:∀ (p:Program) (f:FuncId) (k:CallKind),seen p f (if k == .early then #[] else #[])=#[]:=fun p f k=>by split<;>exact eT _ _
 simp only [stepG.apply,Sem.runT,if_true,sn,bP]
theorem Cb (hZ:bB P)(hE:fh P ρ.F)(hN:bH P)(hI:GId P ρ){fr fr':Frame}(hf:RFr P ρ fr fr'){cs cs':List Frame}(hc:RFs P ρ X cs cs')(hkd:Kd X fr fr' cs')(S:br ρ w w')(hd:Same w w')
  (hmo:∀ (p:Program) m v,stepG p m {frame:=fr,callers:=cs,status:=.running,dying:=none} v=stepG.oper p true fr cs none v) (hmo':∀ (p:Program) m v,stepG p m {frame:=fr',callers:=cs',status:=.running,dying:=none} v=stepG.oper p true fr' cs' none v):
  SF P ρ X w w' (fun u=>stepG.oper P true fr cs none u) (fun u=>stepG.oper P.alt true fr cs none u) (stepG.oper P true fr' cs' none w'):=by
 unfold stepG.oper;have ht:=hf.todo;have ho:fr.oper?=fr'.oper?/\∀o,fr.oper?=some o->fq P ρ.F o.op=true:=by
  unfold Frame.oper?;generalize fr.todo=td at ht;generalize fr'.todo=td' at ht;cases ht with
  |nil=>exact ⟨rfl,fun o h=>by simp at h⟩
  |cons hi hk=>
   cases hi with
   | @inRegion ops l hall=>
    cases l with
    |nil=>exact ⟨rfl,fun o h=>by simp at h⟩
    |cons i l=>exact ⟨rfl,fun o h=>by
      obtain ⟨hlt,rfl⟩:=eS h;exact Array.all_eq_true.1 hall i hlt⟩
   |_=>exact ⟨rfl,fun o h=>by simp at h⟩
 obtain ⟨ho1,ho2⟩:=ho;rw [<-ho1];cases hx:fr.oper? with
 |none=>exact iv trivial trivial
 |some o=>
  have hok:=ho2 o hx;by_cases hcm:BC o.op=true
  ·have hgo:RGo P ρ X {frame:=fr,callers:=cs,status:=.running,dying:=none} {frame:=fr',callers:=cs',status:=.running,dying:=none}:=⟨hf,hc,hkd,⟨rfl,rfl⟩,⟨rfl,rfl⟩,rfl,rfl⟩;have hx':fr'.oper?=some o:=by rw [<-ho1];exact hx
   have hxo:=hx';cases hop:o.op with
   |send c x=>
    rw [hop] at hok;simp only [fq,bT] at hok;have e1:∀ (p:Program) (f:Frame) (l:List Frame) (u:World),f.oper?=some o->stepG.oper p true f l none u=.comm {frame:=f,callers:=l,status:=.running,dying:=none} #[{chan:=f.eval c,send:=some (f.eval x),zero:=.tuple #[]}] true .send u #[]:=fun p f l u h=>by
     have e2:execOp f.eval o=.pure (.comm #[{chan:=f.eval c,send:=some (f.eval x),zero:=.tuple #[]}] true .send):=by unfold execOp;rw [hop];rfl
     unfold stepG.oper;rw [h];simp only [hop,e2];cases f.roundOf<;>exact nD p f l _ _ _ u
    have he:=hf.env hI;refine fO (g:=fun u=>.comm {frame:=fr,callers:=cs,status:=.running,dying:=none} _ true .send u #[]) (ga:=fun u=>.comm {frame:=fr,callers:=cs,status:=.running,dying:=none} _ true .send u #[]) ⟨jC _ (.comm _ _ _ _) _,.inr (.inl ⟨rfl,.comm ⟨fun _=>hok.1.1,fun h=>by cases h⟩ .send (.inl ⟨rfl,rfl⟩) ⟨rfl,rfl⟩ _ ρ (Reach.refl S) hgo ⟨he c hok.1.2,.inr ⟨_,_,rfl,rfl,he x hok.2⟩,cD⟩ (fun e h=>absurd h (Array.not_mem_empty e)) ⟨fun m v=>(hmo P m v).trans (e1 P fr cs v hx),fun m v=>(hmo P.alt m v).trans (e1 P.alt fr cs v hx),fun m v=>(hmo' P m v).trans (e1 P fr' cs' v hx')⟩⟩)⟩ (fun u=>?_) (fun u=>?_) ?_
    ·have:=e1 P fr cs u hx;unfold stepG.oper at this;rw [hx] at this;exact this
    ·have:=e1 P.alt fr cs u hx;unfold stepG.oper at this;rw [hx] at this;exact this
    ·have:=e1 P fr' cs' w' hx';unfold stepG.oper at this;rw [hx'] at this;exact this
   |recv t c ok=>
    rw [hop] at hok;have hok0:=hok;simp only [fq,bT] at hok;have he:=hf.env hI;by_cases hz:∃dir elem i z,P.underlying t=some (.chan dir elem)/\P.info? elem=some i/\i.zero=some z
    ·obtain ⟨dir,elem,i,z,hu,hi,hzz⟩:=hz;have e2:∀ (p:Program) (f:Frame) (u:World),p.underlying t=P.underlying t->p.info? elem=P.info? elem->(execOp f.eval o).runT p u #[]=(.ok (.comm #[{chan:=f.eval c,send:=none,zero:=z}] true (.recv ok)) u,#[]):=fun p f u h1 h2=>by
      unfold execOp;rw [hop];have a1:∀ {α:Type} (k:TypeDesc->Sem α) (es:Array Event),(Sem.bind (underlying t) k).runT p u es=(k (.chan dir elem)).runT p u es:=fun k es=>by
       have:p.underlying t=some (.chan dir elem):=h1.trans hu
       show Sem.runT p (Sem.bind (match p.underlying t with | some d => Pure.pure d | none => stuck "no such type") k) u es = _
       rw [this];rfl
      have a2:∀ {α:Type} (k:Value->Sem α) (es:Array Event),(Sem.bind (zeroValue elem) k).runT p u es=(k z).runT p u es:=fun k es=>by
       have:p.info? elem=some i:=h2.trans hi
       show Sem.runT p (Sem.bind (Sem.bind (match p.info? elem with | some i => Pure.pure i | none => stuck "no such type") (fun i => match i.zero with | some v => Pure.pure v | none => unsupported (.resourceLimit "a value of more than 2^22 cells"))) k) u es = _
       rw [this]
       show Sem.runT p (Sem.bind (match i.zero with | some v => Pure.pure v | none => unsupported (.resourceLimit "a value of more than 2^22 cells")) k) u es = _
       rw [hzz];rfl
      refine (a1 _ _).trans ?_;exact (a2 _ _).trans rfl
     have e1:∀ (p:Program) (f:Frame) (l:List Frame) (u:World),p.underlying t=P.underlying t->p.info? elem=P.info? elem->(f.kind == .early)=false->f.oper?=some o->stepG.oper p true f l none u=.comm {frame:=f,callers:=l,status:=.running,dying:=none} #[{chan:=f.eval c,send:=none,zero:=z}] true (.recv ok) u #[]:=fun p f l u h1 h2 hk h=>by
      unfold stepG.oper;rw [h];simp only [hop];have e3:stepG.apply p true f l none (execOp f.eval o) u=.comm {frame:=f,callers:=l,status:=.running,dying:=none} #[{chan:=f.eval c,send:=none,zero:=z}] true (.recv ok) u #[]:=by
       rw [ll p f hk l (execOp f.eval o) u,e2 p f u h1 h2];simp only [iZ,eT,bP];exact nD p f l _ _ _ u
      cases f.roundOf<;>exact e3
     have hzv:RV ρ z z:=hZ elem i z hi hzz ρ;refine fO (g:=fun u=>.comm {frame:=fr,callers:=cs,status:=.running,dying:=none} _ true (.recv ok) u #[]) (ga:=fun u=>.comm {frame:=fr,callers:=cs,status:=.running,dying:=none} _ true (.recv ok) u #[]) ⟨jC _ (.comm _ _ _ _) _,.inr (.inl ⟨rfl,.comm ⟨(fun h=>by cases h),fun _=>hok.1⟩ (.recv ok) (.inr ⟨rfl,_,rfl⟩) ⟨rfl,rfl⟩ _ ρ (Reach.refl S) hgo ⟨he c hok.2,.inl ⟨rfl,rfl⟩,hzv⟩ (fun e h=>absurd h (Array.not_mem_empty e)) ⟨fun m v=>(hmo P m v).trans (e1 P fr cs v rfl rfl hf.early.1 hx),fun m v=>(hmo P.alt m v).trans (e1 P.alt fr cs v rfl rfl hf.early.1 hx),fun m v=>(hmo' P m v).trans (e1 P fr' cs' v rfl rfl hf.early.2.1 hx')⟩⟩)⟩ (fun u=>?_) (fun u=>?_) ?_
     ·have:=e1 P fr cs u rfl rfl hf.early.1 hx;unfold stepG.oper at this;rw [hx] at this;exact this
     ·have:=e1 P.alt fr cs u rfl rfl hf.early.1 hx;unfold stepG.oper at this;rw [hx] at this;exact this
     ·have:=e1 P fr' cs' w' rfl rfl hf.early.2.1 hx';unfold stepG.oper at this;rw [hx'] at this;exact this
    ·have hrs:RS P RX1 ρ (execOp fr.eval o) (execOp fr'.eval o):=by
      unfold execOp;rw [hop];refine ag (aP t) (fun ρ1 l1 d d' hd=>?_);obtain ⟨rfl,hd⟩:=hd;cases d with
      |chan dir elem=>
       refine ag (Q:=QN) ?_ (fun _ _ _ _ h=>h.elim);unfold zeroValue;refine ag (aC elem) (fun ρ2 l2 a b h=>?_);obtain ⟨rfl,hi⟩:=h;cases hz':a.zero with
       |none=>exact ah _
       |some z=>exact absurd ⟨dir,elem,a,z,hd,hi,hz'⟩ hz
      |_=>exact ac _
     have hgen:=ik hI hf hc hkd hrs S hd;simp only [hop];cases fr.roundOf<;>cases fr'.roundOf<;>exact hgen
   |_=>rw [hop] at hcm;cases hcm
  have hgen:=ik hI hf hc hkd (xx hZ hE hN hI (hf.env hI) (fun _=>rfl) (fun _=>rfl) (xy fr) o hok (by simpa using hcm)) S hd;have hr:=hf.round;dsimp only;generalize hq:fr.roundOf=r at hr;generalize hq':fr'.roundOf=r' at hr;cases hr with
  |none=>exact hgen
  | @some l l' hl=>
   cases hop:o.op with
   |defer c=>
    dsimp only;rw [hop] at hok;simp only [fq] at hok;rw [bT] at hok;refine ik hI hf hc hkd (ag (ij hI (hf.env hI) c hok.2 o.type) (fun ρ1 l1 d d' hd=>ag (ma (l1 _ _ hl) (by rw [l1.F];exact hok.1) hd) (fun ρ2 l2 _ _ _=>aa (.of .skip)))) S hd
   |_=>exact hgen
theorem Cc (hZ:bB P)(hE:fh P ρ.F)(hN:bH P)(hI:GId P ρ)(m:Bool){fr fr':Frame}(hf:RFr P ρ fr fr'){cs cs':List Frame}(hc:RFs P ρ X cs cs')(hkd:Kd X fr fr' cs')(_hin:Base X fr cs')(S:br ρ w w')(hd:Same w w')(hm:fr.mode=.run/\fr'.mode=.run):
  SF P ρ X w w' (fun u=>stepG.exec P m true fr cs none u) (fun u=>stepG.exec P.alt m true fr cs none u) (stepG.exec P m true fr' cs' none w'):=by
 have hret:SF P ρ X w w' (fun u=>.go {frame:={fr with mode:=.returning},callers:=cs,status:=.running,dying:=none} u) (fun u=>.go {frame:={fr with mode:=.returning},callers:=cs,status:=.running,dying:=none} u) (.go {frame:={fr' with mode:=.returning},callers:=cs',status:=.running,dying:=none} w'):=
  Ae ⟨⟨hf.fn,hf.tmps,hf.todo,hf.defers,.returning,hf.early,hf.round⟩,hc,hkd,⟨rfl,rfl⟩,⟨rfl,rfl⟩,rfl,rfl⟩ S
 have hlv:∀ (l l':Nat),fr.roundOf=some l->fr'.roundOf=some l'->ρ l l':=fun l l' h1 h2=>by
  have hr:=hf.round;rw [h1,h2] at hr;cases hr with
  |some h=>exact h
 have hrr:(fr.roundOf=none/\fr'.roundOf=none)\/∃l l',fr.roundOf=some l/\fr'.roundOf=some l'/\ρ l l':=by
  have hr:=hf.round;generalize fr.roundOf=r at hr ⊢;generalize fr'.roundOf=r' at hr ⊢;cases hr with
  |none=>exact .inl ⟨rfl,rfl⟩
  |some h=>exact .inr ⟨_,_,rfl,rfl,h⟩
 have hne:∀ {l:Nat},fr.roundOf=some l->cs'≠X.2:=fun {l} h e=>by rw [hkd.2 e] at h;cases h
 have ht:=hf.todo;unfold stepG.exec;generalize hx:fr.todo=td at ht;generalize hx':fr'.todo=td' at ht;cases ht with
 |nil=>
  simp only [];rcases hrr with ⟨r1,r2⟩|⟨l,l',r1,r2,hl⟩
  ·simp only [hx,hx',r1,r2,if_true] at hret ⊢;exact hret
  ·simp only [r1,r2];exact lm hI m hf hc hkd (hne r1) S hd hl none (fun c e=>by cases e)
 |cons hi hk=>
  cases hi with
  |inBlock id=>simp only [];exact iE S hf hc hkd hk
  |inLoop hb=>simp only [];exact iE S hf hc hkd (.cons (.code hb) (.cons (.inLoop hb) hk))
  |inScope hb=>simp only [];exact iE S hf hc hkd hk
  |inRangeFunc hl=>simp only [];exact iv trivial trivial
  | @endRangeFunc l l' hl=>
   rename_i k k';simp only [];refine mh (uZ hl) S hd (F:=fun r es=>GStep.after (seen P fr.fn es) (match r with
    | .ok jump w=>.go {frame:={fr with todo:=(jump.map Item.code).toList++_},callers:=cs,status:=.running,dying:=none} w
    | .halt (.panic v) w=>.go {frame:=fr.raise [{v,recovered:=false}],callers:=cs,status:=.running,dying:=none} w
    | .halt _ w => .ended (.stuck "range over a function: no such loop" (fr.pos P)) w)) (Fa := fun r es => GStep.after (seen P.alt fr.fn es) (match r with
    | .ok jump w=>.go {frame:={fr with todo:=(jump.map Item.code).toList++_},callers:=cs,status:=.running,dying:=none} w
    | .halt (.panic v) w=>.go {frame:=fr.raise [{v,recovered:=false}],callers:=cs,status:=.running,dying:=none} w
    | .halt _ w => .ended (.stuck "range over a function: no such loop" (fr.pos P.alt)) w)) (F' := fun r es => GStep.after (seen P fr'.fn es) (match r with
    | .ok jump w=>.go {frame:={fr' with todo:=(jump.map Item.code).toList++_},callers:=cs',status:=.running,dying:=none} w
    | .halt (.panic v) w=>.go {frame:=fr'.raise [{v,recovered:=false}],callers:=cs',status:=.running,dying:=none} w
    | .halt _ w => .ended (.stuck "range over a function: no such loop" (fr'.pos P)) w)) ?_ ?_ ?_
   ·intro h u es hn;have key:∀q:Program,Lost (GStep.after (seen q fr.fn es) (match (Result.halt h u:Result (Option Code)) with
     | .ok jump w=>.go {frame:={fr with todo:=(jump.map Item.code).toList++k},callers:=cs,status:=.running,dying:=none} w
     | .halt (.panic v) w=>.go {frame:=fr.raise [{v,recovered:=false}],callers:=cs,status:=.running,dying:=none} w
     | .halt _ w => .ended (.stuck "range over a function: no such loop" (fr.pos q)) w)) := fun q => by
     cases h<;>first|exact trivial|simp [dS] at hn
    exact ⟨key P,key P.alt⟩
   ·intro ρ' u u' a b es es' R hq he;obtain ⟨rfl,hq⟩:=hq;dsimp only;rw [dk hI];refine ⟨aI _ (ce _ _ _),.inr (.inl ⟨rfl,.go _ ρ' R ⟨⟨hf.fn,hf.tmps.mono R.le,?_,hf.defers.mono R.le,hf.mode.mono R.le,hf.early,hf.round.mono R.le⟩,hc.mono R.le,hkd,⟨rfl,rfl⟩,⟨rfl,rfl⟩,rfl,rfl⟩ (fun e h=>he e (dz (by simpa using h)))⟩)⟩;cases a with
    |none=>exact hk.mono R.le
    |some c=>
     have:=hq c rfl;rw [R.le.prog,hI.prog] at this;exact .cons (.code this) (hk.mono R.le)
   ·intro ρ' u u' v v' es es' R hv he;dsimp only;rw [dk hI];exact ⟨aI _ (ce _ _ _),.inr (.inl ⟨rfl,.go _ ρ' R ⟨(hf.mono R.le).raise1 hv,hc.mono R.le,hkd.raise _ _,⟨rfl,rfl⟩,⟨rfl,rfl⟩,rfl,rfl⟩ (fun e h=>he e (dz (by simpa using h)))⟩)⟩
  |beginRound=>
   simp only [];rcases hrr with ⟨r1,r2⟩|⟨l,l',r1,r2,hl⟩
   ·simp only [r1,r2];exact ik hI hf hc hkd (ag (Q:=QU) (ac _) (fun ρ1 l1 _ _ _=>aa (.of .skip))) S hd
   ·simp only [r1,r2];exact ik hI hf hc hkd (ag (oz hl) (fun ρ1 l1 _ _ _=>aa (.of .skip))) S hd
  |regionEnd a b=>simp only [];exact iE S hf hc hkd hk
  | @inRegion ops l ho=>
   cases l with
   |nil=>simp only [];exact iE S hf hc hkd hk
   |cons i l=>
    simp only [];rw [<-nC hf.tmps ops];by_cases hw:((ops[i]?).map (Region.wanted · (yielded ops fr.tmps))).getD false=true
    ·simp only [hw,if_true];have hy:=nC hf.tmps ops;exact Cb hZ hE hN hI hf hc hkd S hd (fun p m v=>by simp only [stepG,hm.1,stepG.exec,hx,hw,if_true]) (fun p m v=>by simp only [stepG,hm.2,stepG.exec,hx',<-hy,hw,if_true])
    ·simp only [hw];exact Ae ⟨hf.finish cD,hc,hkd.finish _ _,⟨rfl,rfl⟩,⟨rfl,rfl⟩,rfl,rfl⟩ S
  | @code c hcd=>
   cases c with
   |skip=>simp only [];exact iE S hf hc hkd hk
   |label l=>simp only [];exact iE S hf hc hkd hk
   |seq a b=>simp only [];simp only [aA,bT] at hcd;exact iE S hf hc hkd (.cons (.code hcd.1) (.cons (.code hcd.2) hk))
   |block id b=>simp only [];exact iE S hf hc hkd (.cons (.code hcd) (.cons (.inBlock id) hk))
   |loop b=>simp only [];exact iE S hf hc hkd (.cons (.code hcd) (.cons (.inLoop hcd) hk))
   |scope b=>simp only [];exact iE S hf hc hkd (.cons (.code hcd) (.cons (.inScope hcd) hk))
   |cond c a b=>
    simp only [aA,bT] at hcd;have hv:=hf.env hI c hcd.1.1;simp only [];generalize Frame.eval fr c=v at hv ⊢;generalize Frame.eval fr' c=v' at hv ⊢;cases hv with
    |bool x=>
     refine iE S hf hc hkd (.cons (.code ?_) hk);cases x
     ·exact hcd.2
     ·exact hcd.1.2
    |_=>exact iv trivial trivial
   |rangeFunc f ps a b=>
    simp only [aA,bT] at hcd;simp only [];rename_i k k';have call_eq:∀ (e:Operand->Value) (l:Nat),resolve e {callee:=.value f,args:=#[.const (.func (.yield l) #[] #[])],argTypes:=#[]} 0=Deferred.ofValue (e f) #[e (.const (.func (.yield l) #[] #[]))]:=fun e l=>by simp [resolve]
    have hrs:RS P QEn ρ (Instr.enterLoop fr.fn fr.tmps ps a b fr.roundOf) (Instr.enterLoop fr'.fn fr'.tmps ps a b fr'.roundOf):=by
     rw [<-hf.fn];exact pS fr.fn hf.tmps ps a b (by rw [hI.prog];exact hcd.1.2) (by rw [hI.prog];exact hcd.2) hf.round
    refine mh hrs S hd (F:=fun r es=>GStep.after (seen P fr.fn es) (match r with
     | .ok (l,mark) w=>stepG.apply P true {fr with todo:=.inRangeFunc l::k,defers:=mark++fr.defers} cs none (do
       let d <-resolve ({fr with todo:=.inRangeFunc l::k,defers:=mark++fr.defers}:Frame).eval {callee:=.value f,args:=#[.const (.func (.yield l) #[] #[])],argTypes:=#[]} 0
       invoke d.target d.args) w
     | .halt _ w => .ended (.stuck "range over a function: no such loop" (fr.pos P)) w)) (Fa := fun r es => GStep.after (seen P.alt fr.fn es) (match r with
     | .ok (l,mark) w=>stepG.apply P.alt true {fr with todo:=.inRangeFunc l::k,defers:=mark++fr.defers} cs none (do
       let d <-resolve ({fr with todo:=.inRangeFunc l::k,defers:=mark++fr.defers}:Frame).eval {callee:=.value f,args:=#[.const (.func (.yield l) #[] #[])],argTypes:=#[]} 0
       invoke d.target d.args) w
     | .halt _ w => .ended (.stuck "range over a function: no such loop" (fr.pos P.alt)) w)) (F' := fun r es => GStep.after (seen P fr'.fn es) (match r with
     | .ok (l,mark) w=>stepG.apply P true {fr' with todo:=.inRangeFunc l::k',defers:=mark++fr'.defers} cs' none (do
       let d <-resolve ({fr' with todo:=.inRangeFunc l::k',defers:=mark++fr'.defers}:Frame).eval {callee:=.value f,args:=#[.const (.func (.yield l) #[] #[])],argTypes:=#[]} 0
       invoke d.target d.args) w
     | .halt _ w => .ended (.stuck "range over a function: no such loop" (fr'.pos P)) w)) ?_ ?_ ?_
    ·intro h u es hn;exact ⟨trivial,trivial⟩
    ·intro ρ' u u' x y es es' R hq he;obtain ⟨l,mark⟩:=x;obtain ⟨l',mark'⟩:=y;obtain ⟨hl,hmk⟩:=hq;simp only at hl hmk;dsimp only;rw [dk hI];have hI':=hI.mono R.le;have hf1:=hf.mono R.le;have hf2:RFr P ρ' {fr with todo:=.inRangeFunc l::k,defers:=mark++fr.defers} {fr' with todo:=.inRangeFunc l'::k',defers:=mark'++fr'.defers}:=
      ⟨hf1.fn,hf1.tmps,.cons (.inRangeFunc hl) (hk.mono R.le),hmk.append hf1.defers,hf1.mode,hf1.early,hf1.round⟩
     have hv:=hf2.env hI' f (by rw [R.le.F];exact hcd.1.1);have hE':fh P ρ'.F:=by rw [R.le.F];exact hE
     have hy:RV ρ' (.func (.yield l) #[] #[]) (.func (.yield l') #[] #[]):=.func (.yield hl) rfl rfl (fun i v v' h=>by simp at h) (fun i v v' h=>by simp at h);have key:=ik (s:=do
       let d <-resolve ({fr with todo:=.inRangeFunc l::k,defers:=mark++fr.defers}:Frame).eval {callee:=.value f,args:=#[.const (.func (.yield l) #[] #[])],argTypes:=#[]} 0
       invoke d.target d.args) (s':=do
       let d <-resolve ({fr' with todo:=.inRangeFunc l'::k',defers:=mark'++fr'.defers}:Frame).eval {callee:=.value f,args:=#[.const (.func (.yield l') #[] #[])],argTypes:=#[]} 0
       invoke d.target d.args) hI' hf2 (hc.mono R.le) hkd (ag (Q:=fun ρ d d'=>RD ρ d d') (by rw [call_eq,call_eq];exact ny hv (RVs.nil.push hy)) (fun ρ1 l1 d d' hd=>(jB hZ (by rw [l1.F];exact hE') hN (hI'.mono l1) hd).imp (fun _ _ _ k=>.of k))) R.sim (R.same hd)
     refine ⟨aI _ key.mir,?_⟩;exact (key.rel.after (seen P fr.fn es) (E':=seen P fr'.fn es') (fun ρ2 l2 e h=>(he e (dz h)).mono l2)).trans R
    ·intro ρ' u u' v v' es es' R hv he;exact ⟨iD _ _ (Lost.noShp (Lost.after (x:=.ended _ _) trivial _)),.inl ⟨trivial,trivial⟩⟩
   |refuse why=>simp only [];exact iv trivial trivial
   |ret=>
    simp only [];rcases hrr with ⟨r1,r2⟩|⟨l,l',r1,r2,hl⟩
    ·simp only [hx,hx',r1,r2,if_true] at hret ⊢;exact hret
    ·simp only [r1,r2];exact lm hI m hf hc hkd (hne r1) S hd hl (some .ret) (fun c e=>by cases e;rfl)
   |exit id=>
    simp only [];rcases vm id hk with ⟨h1,h2⟩|⟨t,t',h1,h2,h3⟩
    ·simp only [h1,h2,Option.elim];rcases hrr with ⟨r1,r2⟩|⟨l,l',r1,r2,hl⟩
     ·simp only [r1,r2];exact iv trivial trivial
     ·simp only [r1,r2];exact lm hI m hf hc hkd (hne r1) S hd hl (some (.exit id)) (fun c e=>by cases e;rfl)
    ·simp only [h1,h2,Option.elim];exact iE S hf hc hkd h3
   |goto l0=>
    simp only [];rcases vn l0 hk with ⟨h1,h2⟩|⟨t,t',h1,h2,h3⟩
    ·simp only [h1,h2,Option.elim];rcases hrr with ⟨r1,r2⟩|⟨l,l',r1,r2,hl⟩
     ·simp only [r1,r2];exact iv trivial trivial
     ·simp only [r1,r2];exact lm hI m hf hc hkd (hne r1) S hd hl (some (.goto l0)) (fun c e=>by cases e;rfl)
    ·simp only [h1,h2,Option.elim];exact iE S hf hc hkd h3
   |region id ops draw=>
    simp only [];cases draw with
    |false=>simp only [Bool.not_false,if_true];exact iE S hf hc hkd (.cons (.inRegion _ hcd) hk)
    |true=>
     simp only [Bool.not_true,Bool.false_eq_true,if_false];rename_i k k';refine fO (mh (cI (.order fr.fn id)) S hd (F:=fun r _=>match r with
      | .ok t w=>.go {frame:={fr with todo:=.inRegion ops (Region.schedule (P.follows .mixedOrders) ops t)::k},callers:=cs,status:=.running,dying:=none} w
      | .halt _ w => .ended (.stuck "order" (fr.pos P)) w) (Fa := fun r _ => match r with
      | .ok t w=>.go {frame:={fr with todo:=.inRegion ops (Region.schedule (P.alt.follows .mixedOrders) ops t)::k},callers:=cs,status:=.running,dying:=none} w
      | .halt _ w => .ended (.stuck "order" (fr.pos P.alt)) w) (F' := fun r _ => match r with
      | .ok t w=>.go {frame:={fr' with todo:=.inRegion ops (Region.schedule (P.follows .mixedOrders) ops t)::k'},callers:=cs',status:=.running,dying:=none} w
      | .halt _ w => .ended (.stuck "order" (fr'.pos P)) w) ?_ ?_ ?_) (fun u => ?_) (fun u => ?_) ?_
     ·intro h u es hn;exact ⟨trivial,trivial⟩
     ·intro ρ' u u' x y es es' R hq he;cases hq;exact ⟨ce _ _ _,.inr (.inl ⟨rfl,.go _ ρ' R ⟨⟨hf.fn,hf.tmps.mono R.le,.cons (.inRegion _ (by rw [R.le.F];exact hcd)) (hk.mono R.le),hf.defers.mono R.le,hf.mode.mono R.le,hf.early,hf.round.mono R.le⟩,hc.mono R.le,hkd,⟨rfl,rfl⟩,⟨rfl,rfl⟩,rfl,rfl⟩ (fun e h=>by simp at h)⟩)⟩
     ·intro ρ' u u' v v' es es' R hv he;exact ⟨iD _ _ (Lost.noShp (x:=.ended _ _) trivial),.inl ⟨trivial,trivial⟩⟩
     ·simp only [Sem.runT_fst];rfl
     ·simp only [Sem.runT_fst];rfl
     ·simp only [Sem.runT_fst,hf.fn];rfl
end
end
