/- A part. -/
import Derived.Test.YtnapepbdohidgaaGreatDoorQS04
import Derived.Lone
set_option maxHeartbeats 4000000
set_option maxRecDepth 100000
open Go renaming World->Wz,Value->Wq,Goroutine->Wj,Program->Wx,Frame->Wv
namespace Go.Proofs.Qw
section
open Go
section
variable {P:Wx} [Two P] {ρ:Ren} {X:List Wv×List Wv} {w w':Wz}
theorem Bc {α:Type}:∀ (l:List α){ρ:Ren}(f f':α->Sem Wq),(∀ρ',ρ.le ρ'->∀a,RS P QV ρ' (f a) (f' a))->RS P (fun ρ x y=>RVs ρ x.toArray y.toArray) ρ (l.mapM f) (l.mapM f'):=by
 intro l;induction l with
 |nil=>intro ρ f f' _;simp only [List.mapM_nil];exact aa RVs.nil
 |cons x l ih=>
  intro ρ f f' hf;simp only [List.mapM_cons];refine ag (hf ρ (Ren.le_refl _) x) (fun ρ1 l1 b b' hb=>?_);refine ag (ih f f' (fun ρ' l'=>hf ρ' (Ren.le_trans l1 l'))) (fun ρ2 l2 bs bs' hbs=>aa ⟨by simpa using hbs.size,fun i v v' h1 h2=>?_⟩);cases i with
  |zero=>simp at h1 h2;subst h1;subst h2;exact hb.mono l2
  |succ i=>exact hbs.at_ i v v' (by simpa using h1) (by simpa using h2)
theorem oa (fn:Func){t t':Array Wq}(h:RVs ρ t t'):RS P QV ρ (results fn t) (results fn t'):=by
 unfold results;rw [Array.mapM_eq_mapM_toList,Array.mapM_eq_mapM_toList];refine ag (Q:=QVs) (ag (Bc _ _ _ (fun ρ' l r=>?_)) (fun ρ1 l1 x y hxy=>aa hxy)) (fun ρ1 l1 v v' hv=>aa ?_)
 .cases r with
  |tmp t=>exact aa ((h.mono l).getD t)
  |cell a t=>exact ag (qv ((h.mono l).getD a)) (fun ρ2 l2 x x' hx=>nU t hx)
 .show RV ρ1 _ _;have hs:=hv.size;by_cases h1:v.size=1
  .have h2:v'.size=1:=by rw [<-hs];exact h1
   simp only [h1,h2,dite_true];exact hv.at_ 0 _ _ (eG (by omega)) (eG (by omega))
  .have h2:¬v'.size=1:=by rw [<-hs];exact h1
   simp only [h1,h2,dite_false];exact .tuple hv.size hv.at_
omit [Two P] in
theorem eu {p:Wx}{fr:Wv}{cs:List Wv}{d:Deferred}{z v:Wz}{a:Next}{es:Array Event}{g:Wj}(hx:((d.target matches .nil)&&(fr.mode matches .panicking _))=false)(h:(invoke d.target d.args).runT p z #[]=(.ok a v,es))
  (ha:match a with
   | .enter f args=>g={frame:=Frame.enter p f args .deferred,callers:=fr::cs,status:=.running,dying:=none}
   | .round l f t x y=>g={frame:=Frame.round l f t x y .deferred,callers:=fr::cs,status:=.running,dying:=none}
   | .value _| .skip| .defer _| .spawn _| .comm _ _ _=>g={frame:=fr,callers:=cs,status:=.running,dying:=none}
   |_=>False):callDeferred p fr cs none d z=.go g v (seen p fr.fn es):=by
 unfold callDeferred;refine (if_neg (fun hc=>absurd (hc.symm.trans hx) (by decide))).trans ?_;simp only [h];cases a<;>first|exact ha.elim|(subst ha;simp [GStep.after])
omit [Two P] in
theorem pf {p:Wx}{fr:Wv}{cs:List Wv}{d:Deferred}{z q:Wz}{v:Wq}{es:Array Event}(hx:((d.target matches .nil)&&(fr.mode matches .panicking _))=false)(h:(invoke d.target d.args).runT p z #[]=(.halt (.panic v) q,es)):callDeferred p fr cs none d z=.go {frame:=fr.raise [{v,recovered:=false}],callers:=cs,status:=.running,dying:=none} q (seen p fr.fn es):=by
 unfold callDeferred;refine (if_neg (fun hc=>absurd (hc.symm.trans hx) (by decide))).trans ?_;simp only [h];simp [GStep.after]
omit [Two P] in
theorem yD {p:Wx}{fr:Wv}{cs:List Wv}{d:Deferred}{z q:Wz}{x:Halt}{es:Array Event}(hn:d9 x=true)(h:(invoke d.target d.args).runT p z #[]=(.halt x q,es)):Lost (callDeferred p fr cs none d z):=by
 by_cases hx:((d.target matches .nil)&&(fr.mode matches .panicking _))=true
 .have e:∃o,callDeferred p fr cs none d z=.ended o z:=⟨_,by unfold callDeferred;exact if_pos hx⟩;obtain ⟨o,e⟩:=e;rw [e];exact trivial
 .unfold callDeferred;refine Eq.mpr (congrArg Lost (if_neg hx)) ?_;simp only [h];refine Lost.after ?_ _;cases x with
  |stuck s=>exact trivial
  |unsupported x=>exact trivial
  |throw m=>show Lost (endThrow fr m q);unfold endThrow dieOf;exact ⟨⟨_,_,rfl,rfl,rfl⟩,rfl⟩
  |_=>simp [d9] at hn
theorem gQ (hZ:bG P)(hE:fu P ρ.F)(hN:bP P)(hI:GId P ρ){fr fr':Wv}(hf:RFr P ρ fr fr'){cs cs':List Wv}(hc:RFs P ρ X cs cs')(hkd:Kd X fr fr' cs'){d d':Deferred}(hdd:RD ρ d d')(S:bB ρ w w')(hd:Same w w'):
  SF P ρ X w w' (fun u=>callDeferred P fr cs none d u) (fun u=>callDeferred P.alt fr cs none d u) (callDeferred P fr' cs' none d' w'):=by
 have hx:((d.target matches .nil)&&(fr.mode matches .panicking _))=((d'.target matches .nil)&&(fr'.mode matches .panicking _)):=by
  have h2:=hf.mode;generalize fr.mode=m at h2 ⊢;generalize fr'.mode=m' at h2 ⊢;cases hdd with
  |mk h1 _=>
   generalize d.target=t at h1 ⊢;generalize d'.target=t' at h1 ⊢;cases h1<;>cases h2<;>rfl
  |odd=>cases h2<;>rfl
 by_cases hn:((d.target matches .nil)&&(fr.mode matches .panicking _))=true
 .refine iK ?_ ?_
  .have e:∃o,callDeferred P fr cs none d w=.ended o w:=⟨_,by unfold callDeferred;exact if_pos hn⟩;obtain ⟨o,e⟩:=e;simp only [e];exact trivial
  .have e:∃o,callDeferred P.alt fr cs none d w=.ended o w:=⟨_,by unfold callDeferred;exact if_pos hn⟩;obtain ⟨o,e⟩:=e;simp only [e];exact trivial
 have hn1:((d.target matches .nil)&&(fr.mode matches .panicking _))=false:=by simpa using hn
 have hn2:=hx.symm.trans hn1;refine Dd (jV hZ hE hN hI hdd) S hd ?_ ?_ ?_
 .intro h u es hno;exact ⟨fun hr=>yD hno hr,fun hr=>yD hno hr⟩
 .intro ρ' u u' a b es es' R hq he hr';have hI':=hI.mono R.le;have hf':=hf.mono R.le;have hc':=hc.mono R.le;have ev:∀e∈seen P fr'.fn es',ir ρ' e:=fun e h=>he e (dG h)
  cases hq with
  | @enter f hF a a' ha=>
   refine ⟨.go {frame:=Frame.enter P f a .deferred,callers:=fr::cs,status:=.running,dying:=none},seen P fr.fn es,fun z v hz=>eu hn1 hz rfl,fun z v hz=>?_,?_⟩
   .rw [eu (p:=P.alt) hn1 hz rfl,dr hI,qD hI' f hF];rfl
   .rw [eu hn2 hr' rfl];exact .go _ ρ' R ⟨RFr.enter hI' f hF _ rfl (by simp) ha,.cons hf' hkd hc',Kd.push hc' rfl,⟨rfl,rfl⟩,⟨rfl,rfl⟩,rfl,rfl⟩ ev
  | @round l l' hl f t t' ht x y hx hy=>
   refine ⟨.go {frame:=Frame.round l f t x y .deferred,callers:=fr::cs,status:=.running,dying:=none},seen P fr.fn es,fun z v hz=>eu hn1 hz rfl,fun z v hz=>?_,?_⟩
   .rw [eu (p:=P.alt) hn1 hz rfl,dr hI];rfl
   .rw [eu hn2 hr' rfl];rw [hI'.prog] at hx hy;exact .go _ ρ' R ⟨⟨rfl,ht,.cons (.code hx) (.cons .beginRound (.cons (.code hy) .nil)),.nil,.run,⟨rfl,rfl,by simp [Frame.round]⟩,.some hl⟩,.cons hf' hkd hc',Kd.push hc' rfl,⟨rfl,rfl⟩,⟨rfl,rfl⟩,rfl,rfl⟩ ev
  |_=>
   refine ⟨.go {frame:=fr,callers:=cs,status:=.running,dying:=none},seen P fr.fn es,fun z v hz=>eu hn1 hz rfl,fun z v hz=>?_,?_⟩
   .rw [eu (p:=P.alt) hn1 hz rfl,dr hI];rfl
   .rw [eu hn2 hr' rfl];exact .go _ ρ' R ⟨hf',hc',hkd,⟨rfl,rfl⟩,⟨rfl,rfl⟩,rfl,rfl⟩ ev
 .intro ρ' u u' v v' es es' R hv he hr';have ev:∀e∈seen P fr'.fn es',ir ρ' e:=fun e h=>he e (dG h)
  refine ⟨.go {frame:=fr.raise [{v,recovered:=false}],callers:=cs,status:=.running,dying:=none},seen P fr.fn es,fun z q hz=>pf hn1 hz,fun z q hz=>?_,?_⟩
  .rw [pf (p:=P.alt) hn1 hz,dr hI];rfl
  .rw [pf hn2 hr'];exact .go _ ρ' R ⟨(hf.mono R.le).raise1 hv,hc.mono R.le,hkd.raise _ _,⟨rfl,rfl⟩,⟨rfl,rfl⟩,rfl,rfl⟩ ev
theorem mL (hI:GId P ρ){f:FuncId}{a b:Func}(h1:P.alt.funcs[f]?=some a)(h2:P.funcs[f]?=some b)(t:Array Wq):results a t=results b t:=by
 have h:=hI.same f;rw [h1,h2] at h;simp [strip] at h;unfold results;rw [h.2.2.2.2.2.2.2.1]
theorem jX (hI:GId P ρ)(f:FuncId):P.alt.funcs[f]?=none↔P.funcs[f]?=none:=by
 have h:=hI.same f;generalize P.alt.funcs[f]?=a at h;generalize P.funcs[f]?=b at h;cases a<;>cases b<;>simp at h ⊢
omit [Two P] in
theorem eC {fr fr':Wv}(hf:RFr P ρ fr fr')(p:Wx):fr.catches p=false/\fr'.catches p=false:=by
 have h:=hf.todo.no_call;unfold Frame.catches;constructor
 .split
  .rename_i d b r s k e;exact absurd e (h.1 _ _ _ _ _)
  .rfl
 .split
  .rename_i d b r s k e;exact absurd e (h.2 _ _ _ _ _)
  .rfl
theorem qJ (hZ:bG P)(hE:fu P ρ.F)(hN:bP P)(hI:GId P ρ)(m:Bool){fr fr':Wv}(hf:RFr P ρ fr fr'){cs cs':List Wv}(hc:RFs P ρ X cs cs')(hkd:Kd X fr fr' cs')(hin:Base X fr cs')(S:bB ρ w w')(hd:Same w w'):
  SF P ρ X w w' (fun u=>unwind P m fr cs none u) (fun u=>unwind P.alt m fr cs none u) (unwind P m fr' cs' none w'):=by
 unfold unwind;have hds:=hf.defers;generalize hx:fr.defers=ds at hds;generalize hx':fr'.defers=ds' at hds;have hf2:=fun ds ds' (hl:RDs ρ ds ds')=>(⟨hf.fn,hf.tmps,hf.todo,hl,hf.mode,hf.early,hf.round⟩:RFr P ρ {fr with defers:=ds} {fr' with defers:=ds'})
 cases hds with
 | @cons d d' l l' h hl=>
  have h0:=h;cases h with
  |odd=>exact gQ hZ hE hN hI (hf2 _ _ hl) hc hkd h0 S hd
  |mk ht ha=>
   obtain ⟨t,a⟩:=d;obtain ⟨t',a'⟩:=d';simp only at ht;cases ht with
   | @collected r r' hr=>
    dsimp only;refine mJ (mF hr) S hd (F:=fun x es=>GStep.after (seen P fr.fn es) (match x with
     | .ok calls w=>.go {frame:={fr with defers:=calls++l},callers:=cs,status:=.running,dying:=none} w
     | .halt _ w => .ended (.stuck "the deferred calls of a range-over-func loop have been taken" (fr.pos P)) w)) (Fa := fun x es => GStep.after (seen P.alt fr.fn es) (match x with
     | .ok calls w=>.go {frame:={fr with defers:=calls++l},callers:=cs,status:=.running,dying:=none} w
     | .halt _ w => .ended (.stuck "the deferred calls of a range-over-func loop have been taken" (fr.pos P.alt)) w)) (F' := fun x es => GStep.after (seen P fr'.fn es) (match x with
     | .ok calls w=>.go {frame:={fr' with defers:=calls++l'},callers:=cs',status:=.running,dying:=none} w
     | .halt _ w => .ended (.stuck "the deferred calls of a range-over-func loop have been taken" (fr'.pos P)) w)) ?_ ?_ ?_
    .intro h u es hn;exact ⟨trivial,trivial⟩
    .intro ρ' u u' x y es es' R hq he;dsimp only;rw [dr hI];have hf':=hf.mono R.le;exact ⟨aH _ (cu _ _ _),.inr (.inl ⟨rfl,.go _ ρ' R ⟨⟨hf'.fn,hf'.tmps,hf'.todo,hq.append (hl.mono R.le),hf'.mode,hf'.early,hf'.round⟩,hc.mono R.le,hkd,⟨rfl,rfl⟩,⟨rfl,rfl⟩,rfl,rfl⟩ (fun e h=>he e (dG (by simpa using h)))⟩)⟩
    .intro ρ' u u' v v' es es' R hv he;exact ⟨iR _ _ (Lost.noShp (Lost.after (x:=.ended _ _) trivial _)),.inl ⟨trivial,trivial⟩⟩
   |_=>exact gQ hZ hE hN hI (hf2 _ _ hl) hc hkd h0 S hd
 |nil=>
  dsimp only;have hne:fr.mode≠.run->cs'≠X.2:=fun h e=>by
   rcases hin e with k|k
   .exact h k
   .exact k hx
  have hm:=hf.mode;generalize hmd:fr.mode=md at hm hne;generalize fr'.mode=md' at hm;cases hm with
  |run=>exact iK trivial trivial
  |panicking hp=>
   dsimp only;simp only [(eC hf P).1,(eC hf P).2,(eC hf P.alt).1,Bool.false_eq_true,if_false];have hne:=hne (by simp);cases hc with
   |cons hk hk2 hl=>exact Bb ⟨hk.raise hp,hl,hk2.raise _ _,⟨rfl,rfl⟩,⟨rfl,rfl⟩,rfl,rfl⟩ S
   |base=>exact absurd rfl hne
  |returning=>
   dsimp only;have hne:=hne (by simp);rw [<-hf.fn];cases hfn:P.funcs[fr.fn]? with
   |none=>
    have hfa:=(jX hI fr.fn).2 hfn;simp only [hfa];have:=iT m (Reach.refl S) hf hc hkd hne (hf.tmps.getD 0) #[] (E':=#[]) (fun e h=>by simp at h);simp only [bZ] at this;exact ⟨this.1,this.2⟩
   |some fn=>
    cases hfa:P.alt.funcs[fr.fn]? with
    |none=>rw [(jX hI fr.fn).1 hfa] at hfn;cases hfn
    |some fa=>
     dsimp only;rw [mL hI hfa hfn];refine mJ (oa fn hf.tmps) S hd (F:=fun x es=>GStep.after (seen P fr.fn es) (match x with
      | .ok v w=>doReturn P m fr cs none v w
      | .halt (.stuck s) w=>.ended (.stuck s (fr.pos P)) w
      | .halt _ w => .ended (.stuck "return: the result variables cannot be read" (fr.pos P)) w)) (Fa := fun x es => GStep.after (seen P.alt fr.fn es) (match x with
      | .ok v w=>doReturn P.alt m fr cs none v w
      | .halt (.stuck s) w=>.ended (.stuck s (fr.pos P.alt)) w
      | .halt _ w => .ended (.stuck "return: the result variables cannot be read" (fr.pos P.alt)) w)) (F' := fun x es => GStep.after (seen P fr.fn es) (match x with
      | .ok v w=>doReturn P m fr' cs' none v w
      | .halt (.stuck s) w=>.ended (.stuck s (fr'.pos P)) w
      | .halt _ w => .ended (.stuck "return: the result variables cannot be read" (fr'.pos P)) w)) ?_ ?_ ?_
     .intro h u es hn;have key:∀q:Wx,Lost (GStep.after (seen q fr.fn es) (match (Result.halt h u:Result Wq) with
       | .ok v w=>doReturn q m fr cs none v w
       | .halt (.stuck s) w=>.ended (.stuck s (fr.pos q)) w
       | .halt _ w => .ended (.stuck "return: the result variables cannot be read" (fr.pos q)) w)) := fun q => by cases h <;> exact trivial
      exact ⟨key P,key P.alt⟩
     .intro ρ' u u' x y es es' R hq he;dsimp only;rw [dr hI];exact iT m R (hf.mono R.le) (hc.mono R.le) hkd hne hq (seen P fr.fn es) (E':=seen P fr.fn es') (fun e h=>he e (dG h))
     .intro ρ' u u' v v' es es' R hv he;exact ⟨iR _ _ (Lost.noShp (Lost.after (x:=.ended _ _) trivial _)),.inl ⟨trivial,trivial⟩⟩
theorem iy (hZ:bG P)(hE:fu P ρ.F)(hN:bP P)(hI:GId P ρ)(m:Bool){g g':Wj}(hg:RGo P ρ X g g')(hin:Base X g.frame g'.callers)(S:bB ρ w w')(hd:Same w w'):
  SF P ρ X w w' (fun u=>stepG P m g u) (fun u=>stepG P.alt m g u) (stepG P m g' w'):=by
 obtain ⟨fr,cs,st,dy,of⟩:=g;obtain ⟨fr',cs',st',dy',of'⟩:=g';obtain ⟨hf,hc,hkd,hst,⟨hd1,hd2⟩,ho⟩:=hg;simp only at hf hc hkd hst hd1 hd2 ho hin;subst hd1;subst hd2;have hm:=hf.mode;cases h1:fr.mode<;>cases h2:fr'.mode<;>rw [h1,h2] at hm<;>cases hm
 .exact fY (Df hZ hE hN hI m hf hc hkd hin S hd ⟨h1,h2⟩) (fun u=>by simp only [stepG,h1]) (fun u=>by simp only [stepG,h1]) (by simp only [stepG,h2])
 .exact fY (qJ hZ hE hN hI m hf hc hkd hin S hd) (fun u=>by simp only [stepG,h1]) (fun u=>by simp only [stepG,h1]) (by simp only [stepG,h2])
 .exact fY (qJ hZ hE hN hI m hf hc hkd hin S hd) (fun u=>by simp only [stepG,h1]) (fun u=>by simp only [stepG,h1]) (by simp only [stepG,h2])
end
def solo (g:Wj)(w:Wz):Machine:={world:=w,gs:=#[g],rest:={timers:=#[],alone:=none,slice:=none}}
def away:Wj:={(default:Wj) with status:=.finished}
section
variable {P:Wx} {g g' k:Wj} {w w':Wz} {es:Array Event}
theorem yE (h:g.status=.running):move P (solo g w)=.goroutine (solo g w) 0:=by
 simp [move,ask,askOn,solo,runnable_eq,due,ahead,Goroutine.canRun,h,List.range_succ,choose,pure,Sem.run,Question.forced]
theorem jq (h:g.status=.running):step P (solo g w)=(runT P (solo g w) 0).1:=by
 rw [step,stepT,yE h]
theorem jY (h:g.status=.running)(hs:stepG P true g w=.go g' w' es):step P (solo g w)=.next (solo g' w'):=by
 rw [jq h];simp [runT,solo,Array.swapAt!,hs]
theorem eD {o:Outcome}(h:g.status=.running)(hs:stepG P true g w=.ended o w' es):step P (solo g w)=.ended o w':=by
 rw [jq h];simp [runT,solo,Array.swapAt!,hs]
theorem wm (h:g.status=.running)(hs:stepG P true g w=.spawn g' k w' es):∃m,step P (solo g w)=.next m/\m.gs.size=2:=by
 rw [jq h];refine ⟨_,by simp [runT,solo,Array.swapAt!,hs];rfl,?_⟩;simp
theorem qK {c:CommCase}{b:Bool}{s:CommShape}(h:g.status=.running)(hs:stepG P true g w=.comm g' #[c] b s w' es):step P (solo g w)=(communicate P {timers:=#[],alone:=none,slice:=none} #[away] 0 g' #[c] b s w').1:=by
 rw [jq h];simp [runT,solo,Array.swapAt!,hs,away]
inductive LC (P:Wx)(g:Wj)(c:CommCase)(s:CommShape)(w:Wz):Wj->Wz->Prop
 |send {r cap sent rcvd:Nat} {buf:Array Wq} {tm:Bool} {v:Wq} (hc:c.chan=.chan (some r)) (hv:c.send=some v) (ho:w.heap[r]?=some (.chan cap buf false sent rcvd tm)) (hr:buf.size<cap):
   LC P g c s w (g.finishComm P #[c] s 0 undef false) {w with heap:=w.heap.setIfInBounds r (.chan cap (buf.push v) false (sent+1) rcvd tm)}
 |recv {r cap sent rcvd:Nat} {buf:Array Wq} {cl tm:Bool} (hc:c.chan=.chan (some r)) (hv:c.send=none) (ho:w.heap[r]?=some (.chan cap buf cl sent rcvd tm)) (hr:0<buf.size):
   LC P g c s w (g.finishComm P #[c] s 0 (buf.getD 0 undef) true) {w with heap:=w.heap.setIfInBounds r (.chan cap (buf.extract 1 buf.size) cl sent (rcvd+1) tm)}
 |shut {r cap sent rcvd:Nat} {tm:Bool} (hc:c.chan=.chan (some r)) (hv:c.send=none) (ho:w.heap[r]?=some (.chan cap #[] true sent rcvd tm)):
   LC P g c s w (g.finishComm P #[c] s 0 c.zero false) w
 |dead {r cap sent rcvd:Nat} {buf:Array Wq} {tm:Bool} {v:Wq} (hc:c.chan=.chan (some r)) (hv:c.send=some v) (ho:w.heap[r]?=some (.chan cap buf true sent rcvd tm)) (hg:g.status=.running):
   LC P g c s w { g with frame := g.frame.raise [{ v := .iface P.rt.plainError (strVal "send on closed channel"), recovered := false }] } w
theorem cd (r:Nat)(b:Bool):partners #[away] r b=[]:=by simp [partners,away]
theorem qL {c:CommCase}{s:CommShape}{m:Machine}(hg:g.status=.running)(h:(communicate P {timers:=#[],alone:=none,slice:=none} #[away] 0 g #[c] true s w).1=.next m):
  (∃g' w',LC P g c s w g' w'/\m=solo g' w')\/(m=solo {g with status:=.blocked,offers:=some (#[c],s)} w):=by
 obtain ⟨ch,sd,z⟩:=c;have hw:waitingAt {timers:=#[],alone:=none,slice:=none} #[⟨ch,sd,z⟩] w=some w:=by
  unfold waitingAt timerAhead;cases ch with
  |chan o=>cases o<;>simp
  |_=>simp
 have hx:waitingAt {timers:=#[],alone:=none,slice:=none} #[(⟨ch,sd,z⟩:CommCase)] w=some w:=hw;cases ch with
 |chan o=>
  cases o with
  |none=>
   right
   simp [communicate,ways,hx] at h;exact h.symm
  |some r=>
   cases ho:w.heap[r]? with
   |none=>simp [communicate,ho] at h
   |some o=>
    cases o with
    |chan cap buf cl sent rcvd tm=>
     cases sd with
     |some v=>
      cases cl with
      |true=>
       left
       simp [communicate,ways,ho,choose,Sem.run,Question.forced,bind,Sem.bind,pure,runtimePanic,goPanic,program] at h;exact ⟨_,_,.dead rfl rfl ho hg,h.symm⟩
      |false=>
       by_cases hr:buf.size<cap
       .left
        simp [communicate,ways,ho,cd,hr,choose,Sem.run,Question.forced,bind,Sem.bind,pure] at h;exact ⟨_,_,.send rfl rfl ho hr,h.symm⟩
       .right
        simp [communicate,ways,ho,cd,hr,hx] at h;exact h.symm
     |none=>
      by_cases hr:0<buf.size
      .left
       simp [communicate,ways,ho,cd,hr,choose,Sem.run,Question.forced,bind,Sem.bind,pure] at h;refine ⟨_,_,.recv rfl rfl ho hr,?_⟩;rw [<-h];simp [solo,hr]
      .have hb:buf=#[]:=Array.eq_empty_of_size_eq_zero (by omega);subst hb;cases cl with
       |true=>
        left
        simp [communicate,ways,ho,cd,choose,Sem.run,Question.forced,bind,Sem.bind,pure] at h;exact ⟨_,_,.shut rfl rfl ho,h.symm⟩
       |false=>
        right
        simp [communicate,ways,ho,cd,hx] at h;exact h.symm
    |_=>simp [communicate,ho] at h
 |_=>simp [communicate] at h
theorem gR (h:g.status=.blocked):∃o u,step P (solo g w)=.ended o u:=by
 have hm:∃o u,move P (solo g w)=.machine (.ended o u):=by
  simp [move,ask,askOn,solo,runnable_eq,due,ahead,Goroutine.canRun,h,List.range_succ,pure];split
  .exact ⟨_,_,rfl⟩
  .exact ⟨_,_,rfl⟩
 obtain ⟨o,u,hm⟩:=hm;exact ⟨o,u,by rw [step,stepT,hm]⟩
end
theorem tC {P:Wx}{m:Bool}{g:Wj}(h:qG g)(w:Wz):(∃o u es,stepG P m g w=.ended o u es)\/∃g' u es,stepG P m g w=.go g' u es/\qG g'/\(g'.status=.running\/g'.status=.blocked):=by
 obtain ⟨fr,cs,st,dy,of⟩:=g;obtain ⟨d,f,h1,h2,h3⟩:=h;simp only at h1;subst h1;have e:stepG P m ⟨fr,cs,st,some d,of⟩ w=die P fr d w:=by
  obtain ⟨a,b,c,e,f,i,j⟩:=d;simp only at h2;subst h2;simp only [stepG]
 rw [e];unfold die;simp only [h3];unfold writeOn;dsimp only;split
 .exact .inl ⟨_,_,_,rfl⟩
 .split
  .exact .inr ⟨_,_,_,rfl,⟨_,_,rfl,h2,rfl⟩,.inl rfl⟩
  .exact .inr ⟨_,_,_,rfl,⟨_,_,rfl,h2,rfl⟩,.inr rfl⟩
  .exact .inl ⟨_,_,_,rfl⟩
  .exact .inl ⟨_,_,_,rfl⟩
theorem wo {P:Wx}:∀ (n:Nat)(g g':Wj)(w w':Wz),qG g->(g.status=.running\/g.status=.blocked)->runN P n (solo g w)=.next (solo g' w')->qG g':=by
 intro n;induction n with
 |zero=>
  intro g g' w w' hd _ h;simp only [runN,Stepped.next.injEq] at h;have:#[g]=#[g']:=congrArg Machine.gs h;simp at this;exact this▸hd
 |succ n ih=>
  intro g g' w w' hd hs h;simp only [runN] at h;rcases hs with hs|hs
  .rcases tC (P:=P) (m:=true) hd w with ⟨o,u,es,e⟩|⟨g1,u,es,e,hd1,hs1⟩
   .rw [eD hs e] at h;simp at h
   .rw [jY hs e] at h;exact ih g1 g' u w' hd1 hs1 h
  .obtain ⟨o,u,e⟩:=gR (P:=P) (w:=w) hs;rw [e] at h;simp at h
theorem yF {P:Wx}:∀ (n:Nat)(m m':Machine),runN P n m=.next m'->m.gs.size<=m'.gs.size:=by
 intro n;induction n with
 |zero=>intro m m' h;simp only [runN,Stepped.next.injEq] at h;rw [h];exact lR _
 |succ n ih=>
  intro m m' h;simp only [runN] at h;cases hs:step P m with
  |next m1=>
   rw [hs] at h;exact lT (stepT_size P m m1 true hs) (ih m1 m' h)
  |ended o w=>rw [hs] at h;simp at h
inductive LS (P:Wx)(g:Wj)(w:Wz):Wj->Wz->Prop
 |go {g':Wj} {w':Wz} {es:Array Event} (h:stepG P true g w=.go g' w' es) (hr:g'.status=.running) (hd:g'.dying=none):LS P g w g' w'
 |comm {g1:Wj} {c:CommCase} {s:CommShape} {w1:Wz} {es:Array Event} {g':Wj} {w':Wz} (h:stepG P true g w=.comm g1 #[c] true s w1 es) (hc:LC P g1 c s w1 g' w'):LS P g w g' w'
theorem LS.fn {P:Wx}{g:Wj}{w:Wz}{a b:Wj}{u v:Wz}(h:LS P g w a u)(k:LS P g w b v):a=b/\u=v:=by
 cases h with
 |go h hr hd=>
  cases k with
  |go k kr kd=>rw [h] at k;cases k;exact ⟨rfl,rfl⟩
  |comm k kc=>rw [h] at k;cases k
 |comm h hc=>
  cases k with
  |go k kr kd=>rw [h] at k;cases k
  |comm k kc=>
   rw [h] at k;cases k;cases hc with
   |send h1 h2 h3 h4=>
    cases kc with
    |send k1 k2 k3 k4=>rw [h1] at k1;cases k1;rw [h3] at k3;cases k3;rw [h2] at k2;cases k2;exact ⟨rfl,rfl⟩
    |recv k1 k2 k3 k4=>rw [h2] at k2;cases k2
    |shut k1 k2 k3=>rw [h2] at k2;cases k2
    |dead k1 k2 k3=>rw [h1] at k1;cases k1;rw [h3] at k3;cases k3
   |recv h1 h2 h3 h4=>
    cases kc with
    |send k1 k2 k3 k4=>rw [h2] at k2;cases k2
    |recv k1 k2 k3 k4=>rw [h1] at k1;cases k1;rw [h3] at k3;cases k3;exact ⟨rfl,rfl⟩
    |shut k1 k2 k3=>rw [h1] at k1;cases k1;rw [h3] at k3;cases k3;simp at h4
    |dead k1 k2 k3=>rw [h2] at k2;cases k2
   |shut h1 h2 h3=>
    cases kc with
    |send k1 k2 k3 k4=>rw [h2] at k2;cases k2
    |recv k1 k2 k3 k4=>rw [h1] at k1;cases k1;rw [h3] at k3;cases k3;simp at k4
    |shut k1 k2 k3=>exact ⟨rfl,rfl⟩
    |dead k1 k2 k3=>rw [h2] at k2;cases k2
   |dead h1 h2 h3=>
    cases kc with
    |send k1 k2 k3 k4=>rw [h1] at k1;cases k1;rw [h3] at k3;cases k3
    |recv k1 k2 k3 k4=>rw [h2] at k2;cases k2
    |shut k1 k2 k3=>rw [h2] at k2;cases k2
    |dead k1 k2 k3=>exact ⟨rfl,rfl⟩
inductive Dem (P:Wx)(N T:Wj->Wz->Prop):Wj->Wz->Prop
 |stop {g:Wj} {w:Wz} (h:T g w):Dem P N T g w
 |step {g:Wj} {w:Wz} (hN:N g w) (hT:¬T g w) (h:∀τ d,∃g' w',LS P g (w.on τ d) g' w') (hn:∀τ d g' w',LS P g (w.on τ d) g' w'->Dem P N T g' w'):Dem P N T g w
theorem Dem.imp {P:Wx}{N N' T:Wj->Wz->Prop}(hi:∀g w,N g w->N' g w){g:Wj}{w:Wz}(h:Dem P N T g w):Dem P N' T g w:=by
 induction h with
 |stop h=>exact .stop h
 |step hN hT h _ ih=>exact .step (hi _ _ hN) hT h ih
inductive Pth (P:Wx)(N T:Wj->Wz->Prop):Wj->Wz->Prop
 |stop {g:Wj} {w:Wz} (h:T g w):Pth P N T g w
 |step {g g':Wj} {w w':Wz} (hN:N g w) (hT:¬T g w) (h:LS P g w g' w') (hp:Pth P N T g' w'):Pth P N T g w
def All (P:Wx)(N T:Wj->Wz->Prop)(g:Wj)(w:Wz):Prop:=∀τ d,Pth P N T g (w.on τ d)
structure Way (P:Wx)(N T:Wj->Wz->Prop):Prop where
 mir:∀g w,N g w->sJ w (fun u=>stepG P true g u)
 on:∀g w τ d,N g w->N g (w.on τ d)
 tape:∀g w τ d,T g (w.on τ d)↔T g w
theorem yG (w:Wz)(τ τ':Nat->Question->Nat)(d d':Nat):(w.on τ d).on τ' d'=w.on τ' d':=rfl
theorem LC.on {P:Wx}{g g':Wj}{c:CommCase}{s:CommShape}{w w':Wz}(h:LC P g c s w g' w')(τ:Nat->Question->Nat)(d:Nat):LC P g c s (w.on τ d) g' (w'.on τ d):=by
 cases h with
 |send h1 h2 h3 h4=>exact .send h1 h2 h3 h4
 |recv h1 h2 h3 h4=>exact .recv h1 h2 h3 h4
 |shut h1 h2 h3=>exact .shut h1 h2 h3
 |dead h1 h2 h3 h4=>exact .dead h1 h2 h3 h4
theorem LC.tape {P:Wx}{g g':Wj}{c:CommCase}{s:CommShape}{w w':Wz}(h:LC P g c s w g' w'):w'.tape=w.tape/\w'.drawn=w.drawn:=by
 cases h<;>exact ⟨rfl,rfl⟩
theorem LS.two {P:Wx}{g g':Wj}{w w':Wz}(hm:sJ w (fun u=>stepG P true g u))(h:LS P g w g' w'):w'.tape=w.tape/\w.drawn<=w'.drawn/\∀τ d,Like w w' τ d->LS P g (w.on τ d) g' (w'.on τ (d+(w'.drawn-w.drawn))):=by
 cases h with
 |go h hr hd=>
  obtain ⟨h1,h2,h3⟩:=hm (.go g') w' _ hd h;exact ⟨h1,h2,fun τ d hl=>.go (h3 τ d hl) hr hd⟩
 | @comm g1 c s w1 es _ _ h hc=>
  obtain ⟨h1,h2,h3⟩:=hm (.comm g1 #[c] true s) w1 _ trivial h;obtain ⟨k1,k2⟩:=hc.tape;refine ⟨k1.trans h1,by omega,fun τ d hl=>?_⟩;rw [k2];exact .comm (h3 τ d (fun i hi=>hl i (by omega))) (hc.on _ _)
theorem Way.many {P:Wx}{N T:Wj->Wz->Prop}(W:Way P N T){g:Wj}{w:Wz}(h:Pth P N T g w):∀τ d,(∀i,τ (d+i)=w.tape (w.drawn+i))->Pth P N T g (w.on τ d):=by
 induction h with
 |stop h=>intro τ d _;exact .stop ((W.tape _ _ _ _).2 h)
 | @step g g' w w' hN hT h _ ih=>
  intro τ d hl;obtain ⟨h1,h2,h3⟩:=h.two (W.mir _ _ hN);refine .step (W.on _ _ _ _ hN) (fun k=>hT ((W.tape _ _ _ _).1 k)) (h3 τ d (fun i _=>hl i)) (ih τ _ (fun i=>?_));have:=hl (w'.drawn-w.drawn+i);rw [show d+(w'.drawn-w.drawn)+i=d+(w'.drawn-w.drawn+i) by omega,this,h1,show w.drawn+(w'.drawn-w.drawn+i)=w'.drawn+i by omega]
def join (τ τ':Nat->Question->Nat)(m d':Nat):Nat->Question->Nat:=fun i=>if i<m then τ i else τ' (d'+(i-m))
theorem Way.all_step {P:Wx}{N T:Wj->Wz->Prop}(W:Way P N T){g g':Wj}{w w':Wz}{τ:Nat->Question->Nat}{d:Nat}(hA:All P N T g w)(hT:¬T g w)(h:LS P g (w.on τ d) g' w'):All P N T g' w':=by
 intro τ' d';have hp0:=hA τ d;have hN0:N g (w.on τ d):=by
  cases hp0 with
  |stop k=>exact absurd ((W.tape _ _ _ _).1 k) hT
  |step hN _ _ _=>exact hN
 obtain ⟨h1,h2,h3⟩:=h.two (W.mir _ _ hN0);have hl:Like (w.on τ d) w' (join τ τ' w'.drawn d') d:=fun i hi=>by
  have:d+i<w'.drawn:=hi;show (if d+i<w'.drawn then _ else _)=_;rw [if_pos this];rfl
 have h4:=h3 _ d hl;rw [yG] at h4;have hd2:d<=w'.drawn:=h2;have hp:=hA (join τ τ' w'.drawn d') d;cases hp with
 |stop k=>exact absurd ((W.tape _ _ _ _).1 k) hT
 |step _ _ hls hp=>
  obtain ⟨rfl,rfl⟩:=hls.fn h4;have:=W.many hp τ' d' (fun i=>by
   show τ' (d'+i)=(if d+(w'.drawn-d)+i<w'.drawn then _ else τ' (d'+(d+(w'.drawn-d)+i-w'.drawn)));rw [if_neg (by omega)];congr 1;omega)
  rw [yG] at this;exact this
structure Bad (P:Wx)(N T:Wj->Wz->Prop)(x:Wj×Wz):Prop where
 all:All P N T x.1 x.2
 not:¬Dem P N T x.1 x.2
theorem Way.bad_next {P:Wx}{N T:Wj->Wz->Prop}(W:Way P N T)(x:{x:Wj×Wz // Bad P N T x}):
  ∃ (τ:Nat->Question->Nat) (d:Nat) (y:{x:Wj×Wz // Bad P N T x}),N x.1.1 (x.1.2.on τ d)/\LS P x.1.1 (x.1.2.on τ d) y.1.1 y.1.2:=by
 obtain ⟨⟨g,w⟩,hA,hN⟩:=x;simp only at hA hN;have hT:¬T g w:=fun h=>hN (.stop h)
 have hgo:∀τ d,N g (w.on τ d)/\∃g' w',LS P g (w.on τ d) g' w':=fun τ d=>by
  have:=hA τ d;cases this with
  |stop k=>exact absurd ((W.tape _ _ _ _).1 k) hT
  |step hN _ h _=>exact ⟨hN,_,_,h⟩
 have hex:∃τ d g' w',LS P g (w.on τ d) g' w'/\¬Dem P N T g' w':=by
  refine Classical.byContradiction fun hc=>hN (.step (hgo w.tape w.drawn).1 hT (fun τ d=>(hgo τ d).2) fun τ d g' w' h=>Classical.byContradiction fun hnd=>hc ⟨τ,d,g',w',h,hnd⟩)
 obtain ⟨τ,d,g',w',h,hnd⟩:=hex;exact ⟨τ,d,⟨(g',w'),⟨W.all_step hA hT h,hnd⟩⟩,(hgo τ d).1,h⟩
theorem Way.dem {P:Wx}{N T:Wj->Wz->Prop}(W:Way P N T){g:Wj}{w:Wz}(hA:All P N T g w):Dem P N T g w:=by
 classical
 refine Classical.byContradiction fun hN=>?_
 have hb:=W.bad_next;obtain ⟨ta,da,nx,hstep⟩:∃ (ta:{x:Wj×Wz // Bad P N T x}->Nat->Question->Nat) (da:{x:Wj×Wz // Bad P N T x}->Nat) (nx:{x:Wj×Wz // Bad P N T x}->{x:Wj×Wz // Bad P N T x}),∀x,N x.1.1 (x.1.2.on (ta x) (da x))/\LS P x.1.1 (x.1.2.on (ta x) (da x)) (nx x).1.1 (nx x).1.2:=
  ⟨fun x=>(hb x).choose,fun x=>(hb x).choose_spec.choose,fun x=>(hb x).choose_spec.choose_spec.choose,fun x=>(hb x).choose_spec.choose_spec.choose_spec⟩
 let sq:Nat->{x:Wj×Wz // Bad P N T x}:=fun k=>Nat.rec ⟨(g,w),⟨hA,hN⟩⟩ (fun _ x=>nx x) k
 have sq0:sq 0=⟨(g,w),⟨hA,hN⟩⟩:=rfl;have sqs:∀k,sq (k+1)=nx (sq k):=fun k=>rfl
 let m:Nat->Nat:=fun k=>(sq (k+1)).1.2.drawn-da (sq k)
 let S:Nat->Nat:=fun k=>Nat.rec 0 (fun j n=>n+m j) k
 have Ss:∀k,S (k+1)=S k+m k:=fun k=>rfl
 have mono:∀j k,j<=k->S j<=S k:=fun j k h=>by
  induction h with
  |refl=>exact lR _
  |step _ ih=>rw [Ss];omega
 let τ:Nat->Question->Nat:=fun i=>if h:∃k,S k<=i/\i<S (k+1) then ta (sq h.choose) (da (sq h.choose)+(i-S h.choose)) else fun _=>0
 have hτ:∀k i,i<m k->τ (S k+i)=ta (sq k) (da (sq k)+i):=fun k i hi=>by
  have hex:∃k',S k'<=S k+i/\S k+i<S (k'+1):=⟨k,by omega,by rw [Ss];omega⟩;have hk:hex.choose=k:=by
   obtain ⟨c1,c2⟩:=hex.choose_spec;rcases Nat.lt_trichotomy hex.choose k with h|h|h
   .have:=mono (hex.choose+1) k h;omega
   .exact h
   .have:=mono (k+1) hex.choose h;rw [Ss] at this;omega
  show (if h:∃k',S k'<=S k+i/\S k+i<S (k'+1) then ta (sq h.choose) (da (sq h.choose)+(S k+i-S h.choose)) else fun _=>0)=_;rw [dif_pos hex,hk];congr 1;omega
 have one:∀k,LS P (sq k).1.1 ((sq k).1.2.on τ (S k)) (sq (k+1)).1.1 ((sq (k+1)).1.2.on τ (S (k+1))):=fun k=>by
  obtain ⟨hn,h⟩:=hstep (sq k);rw [<-sqs] at h;obtain ⟨-,-,h3⟩:=h.two (W.mir _ _ hn);have:=h3 τ (S k) (fun i hi=>by
   have hi':da (sq k)+i<(sq (k+1)).1.2.drawn:=hi;have:i<m k:=by show i<(sq (k+1)).1.2.drawn-da (sq k);omega
   exact hτ k i this)
  rw [yG] at this;exact this
 have none_:∀ (g':Wj) (w':Wz),Pth P N T g' w'->∀k,g'=(sq k).1.1->w'=(sq k).1.2.on τ (S k)->False:=by
  intro g' w' hp;induction hp with
  |stop h=>intro k e1 e2;subst e1;subst e2;exact (sq k).2.not (.stop ((W.tape _ _ _ _).1 h))
  |step _ _ h _ ih=>
   intro k e1 e2;subst e1;subst e2;obtain ⟨e3,e4⟩:=h.fn (one k);exact ih (k+1) e3 e4
 exact none_ g (w.on τ 0) (hA τ 0) 0 rfl rfl
def trap (P : Wx) : Wv := { fn := P.funcs.size, tmps := #[], todo := [.code (.refuse "")], defers := [{ target := .nil, args := #[] }], mode := .run, kind := .normal }
def Self (P:Wx) [Two P](X:List Wv×List Wv)(A:Nat->Prop)(G:FuncId->Bool)(g:Wj)(w:Wz):Prop:=
 g.status=.running/\∃ρ g' w',RGo P ρ X g g'/\bB ρ w w'/\GId P ρ/\fu P ρ.F/\ρ.loose=false/\ρ.wide=false/\(ρ.ch=A/\(∀c,A c->∃b,ρ c b)/\ρ.F=G)/\(∀c,¬ρ.old c)/\(∀f,¬Mk ρ.F f=true)
def NB (X:List Wv)(g:Wj):Prop:=g.callers=X->g.frame.mode=.run\/g.frame.defers≠[]
section
variable {P:Wx} [Two P] {X:List Wv×List Wv} {A:Nat->Prop} {G:FuncId->Bool} {g g':Wj} {w w':Wz}
omit [Two P] in
theorem RFs.tail {ρ:Ren}{l l':List Wv}(h:RFs P ρ X l l')(e:l'=X.2):l=X.1:=by
 cases h with
 |base=>rfl
 |cons _ _ hl=>exact absurd e hl.ne
omit [Two P] in
theorem bB.onL {ρ:Ren}{w w':Wz}(S:bB ρ w w')(τ:Nat->Question->Nat)(d:Nat):bB ρ (w.on τ d) w':=⟨S.obj,S.fix,S.chan,S.os,S.pin⟩
omit [Two P] in
theorem bB.onR {ρ:Ren}{w w':Wz}(S:bB ρ w w')(τ:Nat->Question->Nat)(d:Nat):bB ρ w (w'.on τ d):=⟨S.obj,S.fix,S.chan,S.os,S.pin⟩
theorem Self.on (h:Self P X A G g w)(τ:Nat->Question->Nat)(d:Nat):Self P X A G g (w.on τ d):=by
 obtain ⟨hr,ρ,g',w',h1,h2,h3⟩:=h;exact ⟨hr,ρ,g',w',h1,h2.onL _ _,h3⟩
omit [Two P] in
theorem dp {ρ:Ren}{g g':Wj}(h:RGo P ρ X g g'){c c':CommCase}(_hc:RC ρ c c')(s:CommShape)(hs:(c.send.isSome=true/\s=.send)\/(c.send=none/\∃ok,s=.recv ok)){v v':Wq}(hv:RV ρ v v')(ok:Bool):RGo P ρ X (g.finishComm P #[c] s 0 v ok) (g'.finishComm P #[c'] s 0 v' ok):=by
 have hcr:RV ρ (commResult #[c] s 0 v ok) (commResult #[c'] s 0 v' ok):=by
  rcases hs with ⟨_,rfl⟩|⟨_,o,rfl⟩
  .exact cK
  .cases o with
   |false=>exact hv
   |true=>
    have:=(RVs.nil.push hv).push (RV.bool ok);exact .tuple this.size this.at_
 exact ⟨h.frame.finish hcr,h.callers,h.kind.finish _ _,⟨rfl,rfl⟩,h.dying,rfl,rfl⟩
theorem Self.step (hZ:bG P)(hN:bP P)(h:Self P X A G g w)(hb:NB X.1 g)(hl:LS P g w g' w'):Self P X A G g' w':=by
 obtain ⟨hr,ρ,k,u,hG,S,hI,hE,ho,hwi,⟨hch,hcb,hFG⟩,hold,hmk⟩:=h;have hin:Base X g.frame k.callers:=fun e=>hb (hG.callers.tail e)
 have sf:=iy hZ hE hN hI true hG hin (S.onR w.tape w.drawn) (fun i=>rfl);rcases sf.rel with ⟨h1,-⟩|⟨-,h2⟩|⟨f,_,_,_,_,_,_,_,_,_,_,_,A⟩
 rotate_left 2
 .exact absurd A.mark (hmk f)
 .cases hl with
  |go h hr hd=>
   rw [h] at h1;obtain ⟨⟨d,f,e,-⟩,-⟩:=h1;rw [hd] at e;cases e
  |comm h _=>rw [h] at h1;exact h1.elim
 .cases hl with
  |go h hr hd=>
   rw [h] at h2;generalize stepG P true k (u.on w.tape w.drawn)=y at h2;cases h2 with
   |go es ρ' R hg he=>exact ⟨hr,ρ',_,_,hg,R.sim,hI.mono R.le,by rw [R.le.F];exact hE,R.le.loose.trans ho,R.le.wide.trans hwi,⟨R.le.ch.trans hch,(fun c k=>(hcb c k).imp fun b=>R.le _ _),R.le.F.trans hFG⟩,by rw [R.le.old];exact hold,by rw [R.le.F];exact hmk⟩
  | @comm g1 c s w1 es _ _ h hc=>
   rw [h] at h2;generalize stepG P true k (u.on w.tape w.drawn)=y at h2;cases h2 with
   | @comm _ k1 _ c' _ _ hs hrun _ u1 _ es' ρ' R hg hcc he _=>
    have hlo:ρ'.loose=false:=R.le.loose.trans ho;have hwi':ρ'.wide=false:=R.le.wide.trans hwi;have hch':ρ'.ch=A/\(∀c,A c->∃b,ρ' c b)/\ρ'.F=G:=⟨R.le.ch.trans hch,(fun c k=>(hcb c k).imp fun b=>R.le _ _),R.le.F.trans hFG⟩;have hold':∀c,¬ρ'.old c:=by rw [R.le.old];exact hold
    have fin:∀ (v v':Wq) (ok:Bool) (z z':Wz),RV ρ' v v'->bB ρ' z z'->Self P X A G (g1.finishComm P #[c] s 0 v ok) z:=fun v v' ok z z' hv hz=>
     ⟨rfl,ρ',_,z',dp hg hcc s hs hv ok,hz,hI.mono R.le,by rw [R.le.F];exact hE,hlo,hwi',hch',hold',by rw [R.le.F];exact hmk⟩
    have S':=R.sim;have rel:∀r cap buf cl sent rcvd tm,c.chan=.chan (some r)->w1.heap[r]?=some (.chan cap buf cl sent rcvd tm)->∃r' cap' buf' sent' rcvd',ρ' r r'/\RVs ρ' buf buf'/\∀ (b b':Array Wq) (s2 q2:Nat),RVs ρ' b b'->bB ρ' {w1 with heap:=w1.heap.setIfInBounds r (.chan cap b cl s2 q2 tm)} {u1 with heap:=u1.heap.setIfInBounds r' (.chan cap' b' cl sent' rcvd' tm)}:=fun r cap buf cl sent rcvd tm e eo=>by
     have:=hcc.chan;rw [e] at this;generalize c'.chan=q at this;cases this with
     |chan h=>
      cases h with
      | @some _ r' h=>
       obtain ⟨o,o',k1,k2,k3⟩:=S'.obj _ _ h;rw [eo] at k1;cases k1;cases k3 with
       | @chan _ cap' _ b' cl' _ _ _ s' q' _ hb hcl=>
        have hbb:RVs ρ' buf b':=by
         rcases hb with hb|hb
         .rw [hlo] at hb;cases hb
         .exact hb
        obtain rfl:=hcl.resolve_left (by rw [hwi'];exact fun h=>by cases h);exact ⟨r',cap',b',s',q',h,hbb,fun b b2 s2 q2 hb2=>S'.put h (.chan _ _ _ _ _ _ _ _ _ (.inr hb2) (.inr rfl)) (hold' r) (fun _=>rfl) (fun _ _ _ k=>by rw [eo] at k;cases k)⟩
    cases hc with
    | @send r cap sent rcvd buf tm v h1 h2 h3 h4=>
     obtain ⟨r',cap',buf',s',q',k1,k2,k3⟩:=rel r _ _ _ _ _ _ h1 h3;rcases hcc.send with ⟨e,-⟩|⟨v1,v2,e1,e2,hv⟩
     .rw [h2] at e;cases e
     .rw [h2] at e1;cases e1;exact fin _ _ false _ _ cK (k3 _ _ _ _ (k2.push hv))
    | @recv r cap sent rcvd buf cl tm h1 h2 h3 h4=>
     obtain ⟨r',cap',buf',s',q',k1,k2,k3⟩:=rel r _ _ _ _ _ _ h1 h3;exact fin _ _ true _ _ (k2.getD 0) (k3 _ _ _ _ (k2.extract 1 buf.size))
    |shut h1 h2 h3=>exact fin _ _ false _ _ hcc.zero S'
    |dead h1 h2 h3=>
     exact ⟨hrun.1, ρ', { k1 with frame := k1.frame.raise [{ v := .iface P.rt.plainError (strVal "send on closed channel"), recovered := false }] }, u1, ⟨hg.frame.raise1 (.iface _ (.string _)), hg.callers, hg.kind.raise _ _, hg.status, hg.dying, hg.offers⟩, S', hI.mono R.le, by rw [R.le.F]; exact hE, hlo, hwi', hch', hold', by rw [R.le.F]; exact hmk⟩
def jr (P:Wx) [Two P](X:List Wv×List Wv)(A:Nat->Prop)(G:FuncId->Bool)(g:Wj)(w:Wz):Prop:=Self P X A G g w/\NB X.1 g
theorem jr.mir (hZ:bG P)(hN:bP P)(h:jr P X A G g w):sJ w (fun u=>stepG P true g u):=by
 obtain ⟨⟨hr,ρ,k,u,hG,S,hI,hE,ho,hwi,⟨hch,hcb,hFG⟩,hold,hmk⟩,hb⟩:=h;have hin:Base X g.frame k.callers:=fun e=>hb (hG.callers.tail e)
 exact (iy hZ hE hN hI true hG hin (S.onR w.tape w.drawn) (fun i=>rfl)).mir
omit [Two P] in
theorem qM {f:Wv}(hf:f=trap P\/∃c,f=(trap P).raise c)(w:Wz):∃o u es,stepG P true {frame:=f,callers:=[],status:=.running,dying:=none} w=.ended o u es:=by
 rcases hf with rfl|⟨c,rfl⟩
 .exact ⟨_,_,_,rfl⟩
 .exact ⟨_,_,_,rfl⟩
omit [Two P] in
theorem iU (fr:Wv)(hk:(fr.kind == .early)=false)(v:Wq)(w:Wz):∃f1,doReturn P true fr [trap P] none v w=.go {frame:=f1,callers:=[],status:=.running,dying:=none} w/\(f1=trap P\/∃c,f1=(trap P).raise c):=by
 unfold doReturn;cases h:fr.kind with
 |early=>rw [h] at hk;simp at hk
 |normal=>exact ⟨_,rfl,.inl rfl⟩
 |wrapped=>exact ⟨_,rfl,.inl rfl⟩
 |deferred=>exact ⟨_,rfl,.inl rfl⟩
 |report=>exact ⟨_,rfl,.inl rfl⟩
omit [Two P] in
theorem yH {ρ:Ren}(hG:RGo P ρ X g g')(hc:g.callers=[trap P])(hm:g.frame.mode≠.run)(hd:g.frame.defers=[])(w:Wz):
  (∃o u es,stepG P true g w=.ended o u es)\/∃f1 u es,stepG P true g w=.go {frame:=f1,callers:=[],status:=.running,dying:=none} u es/\(f1=trap P\/∃c,f1=(trap P).raise c):=by
 obtain ⟨fr,cs,st,dy,of⟩:=g;obtain ⟨hf,-,-,-,⟨hdy,-⟩,-⟩:=hG;simp only at hf hdy hc hm hd;subst hc;subst hdy;have e:stepG P true ⟨fr,[trap P],st,none,of⟩ w=unwind P true fr [trap P] none w:=by
  cases hx:fr.mode with
  |run=>exact absurd hx hm
  |returning=>simp only [stepG,hx]
  |panicking c=>simp only [stepG,hx]
 rw [e];unfold unwind;simp only [hd];cases hx:fr.mode with
 |run=>exact absurd hx hm
 |panicking c=>
  simp only [(eC hf P).1,Bool.false_eq_true,if_false];exact .inr ⟨_,_,_,rfl,.inr ⟨c,rfl⟩⟩
 |returning=>
  simp only;cases hfn:P.funcs[fr.fn]? with
  |none=>
   obtain ⟨f1,e1,h1⟩:=iU (P:=P) fr hf.early.1 (fr.tmps.getD 0 undef) w;exact .inr ⟨f1,_,_,e1,h1⟩
  |some fn=>
   simp only;cases hr:(results fn fr.tmps).runT P w #[] with
   |mk r es=>
    cases r with
    |ok v u=>
     obtain ⟨f1,e1,h1⟩:=iU (P:=P) fr hf.early.1 v u;simp only [e1];exact .inr ⟨f1,_,_,rfl,h1⟩
    |halt x u=>cases x<;>exact .inl ⟨_,_,_,rfl⟩
theorem mM (hZ:bG P)(hN:bP P){T:Wj->Wz->Prop}(hT:∀g w,T g w->g.callers≠[]/\g.dying=none/\g.status=.running):
  ∀ (n:Nat) (g:Wj) (w:Wz) (g':Wj) (w':Wz),Self P ([trap P],[]) A G g w->runN P n (solo g w)=.next (solo g' w')->T g' w'->Pth P (jr P ([trap P],[]) A G) T g w:=by
 intro n;induction n with
 |zero=>
  intro g w g' w' _ h hT';simp only [runN,Stepped.next.injEq] at h;have e1:#[g]=#[g']:=congrArg Machine.gs h;have e2:w=w':=congrArg Machine.world h;simp at e1;subst e1;subst e2;exact .stop hT'
 |succ n ih=>
  intro g w g' w' hS h hT';by_cases hTg:T g w
  .exact .stop hTg
  have hr:=hS.1;simp only [runN] at h;by_cases hb:NB [trap P] g
  .have hS0:=hS;obtain ⟨-,ρ,k,u,hG,S,hI,hE,-,-,-,-,hmk⟩:=hS;have hin:Base ([trap P],[]) g.frame k.callers:=fun e=>hb (hG.callers.tail e)
   have sf:=iy hZ hE hN hI true hG hin (S.onR w.tape w.drawn) (fun i=>rfl);rcases sf.rel with ⟨h1,-⟩|⟨-,h2⟩|⟨f,_,_,_,_,_,_,_,_,_,_,_,A⟩
   rotate_left 2
   .exact absurd A.mark (hmk f)
   .-- it ends,or it dies
    cases hx:stepG P true g w with
    |ended o v es=>rw [eD hr hx] at h;simp at h
    |go a v es=>
     have h1:Lost (stepG P true g w):=h1;rw [hx] at h1;rw [jY hr hx] at h;obtain ⟨d,f,e,-⟩:=wo n a g' v w' h1.1 (.inl h1.2) h;rw [(hT _ _ hT').2.1] at e;cases e
    |_=>have h1:Lost (stepG P true g w):=h1;rw [hx] at h1;exact h1.elim
   .generalize hx:stepG P true g w=x at h2;generalize stepG P true k (u.on w.tape w.drawn)=y at h2;cases h2 with
    | @go a a' v v' es es' ρ' R hg he=>
     rw [jY hr hx] at h;have hl:LS P g w a v:=.go hx hg.status.1 hg.dying.1;exact .step ⟨hS0,hb⟩ hTg hl (ih a v g' w' (hS0.step hZ hN hb hl) h hT')
    | @comm a a' c c' _ s hs hrun v v' es es' ρ' R hg hcc he _=>
     rw [qK hr hx] at h;cases hy:(communicate P {timers:=#[],alone:=none,slice:=none} #[away] 0 a #[c] true s v).1 with
     |ended o q=>rw [hy] at h;simp at h
     |next m=>
      rw [hy] at h;rcases qL hrun.1 hy with ⟨b,q,hc,rfl⟩|rfl
      .have hl:LS P g w b q:=.comm hx hc;exact .step ⟨hS0,hb⟩ hTg hl (ih b q g' w' (hS0.step hZ hN hb hl) h hT')
      .cases n with
       |zero=>
        simp only [runN,Stepped.next.injEq] at h;have e1:#[({a with status:=.blocked,offers:=some (#[c],s)}:Wj)]=#[g']:=congrArg Machine.gs h;simp at e1;have:=(hT _ _ hT').2.2;rw [<-e1] at this;cases this
       |succ n=>
        obtain ⟨o,z,e⟩:=gR (P:=P) (w:=v) (g:={a with status:=.blocked,offers:=some (#[c],s)}) rfl;simp only [runN,e] at h;simp at h
    | @spawn _ a a' b b' v v' es es' ρ' R hg hk he=>
     obtain ⟨m,e,hm⟩:=wm hr hx;rw [e] at h;have:=yF n m _ h;rw [hm] at this;simp [solo] at this
  .-- it is left:into the trap
   have hc:g.callers=[trap P]:=Classical.byContradiction fun k=>hb (fun e=>absurd e k)
   have hm:g.frame.mode≠.run:=fun k=>hb (fun _=>.inl k)
   have hd:g.frame.defers=[]:=Classical.byContradiction fun k=>hb (fun _=>.inr k)
   obtain ⟨-,ρ,k,u,hG,-⟩:=hS;rcases yH hG hc hm hd w with ⟨o,v,es,e⟩|⟨f1,v,es,e,hf⟩
   .rw [eD hr e] at h;simp at h
   .rw [jY hr e] at h;cases n with
    |zero=>
     simp only [runN,Stepped.next.injEq] at h;have e1:#[({frame:=f1,callers:=[],status:=.running,dying:=none}:Wj)]=#[g']:=congrArg Machine.gs h;simp at e1;have:=(hT _ _ hT').1;rw [<-e1] at this;exact (this rfl).elim
    |succ n=>
     obtain ⟨o,z,es2,e2⟩:=qM (P:=P) hf v;simp only [runN,eD (g:={frame:=f1,callers:=[],status:=.running,dying:=none}) rfl e2] at h;simp at h
def Ends (P:Wx)(f:FuncId)(R:(Nat->Question->Nat)->Nat->Ending->Wz->Prop)(g:Wj)(w:Wz):Prop:=
 ∃τ d τ' d' e fr,R τ d e (w.on τ' d')/\g={frame:=fr,callers:=[trap P],status:=.running,dying:=none}/\fr.fn=f/\fr.leaving P (w.on τ' d') e/\e≠.outgrown
omit [Two P] in
theorem Ends.on {f:FuncId}{R:(Nat->Question->Nat)->Nat->Ending->Wz->Prop}(τ:Nat->Question->Nat)(d:Nat):Ends P f R g (w.on τ d)↔Ends P f R g w:=Iff.rfl
theorem qN (hZ:bG P)(hN:bP P){f:FuncId}{args:Array Wq}{R:(Nat->Question->Nat)->Nat->Ending->Wz->Prop}(hC:∀τ d,Calls P f args (w.on τ d) (R τ d))(hout:∀τ d u,¬R τ d .outgrown u)
  (hS:Self P ([trap P],[]) A G {frame:=Frame.enter P f args .normal,callers:=[trap P],status:=.running,dying:=none} w):
  Dem P (jr P ([trap P],[]) A G) (Ends P f R) {frame:=Frame.enter P f args .normal,callers:=[trap P],status:=.running,dying:=none} w:=by
 refine Way.dem (N:=jr P ([trap P],[]) A G) ⟨fun g w h=>h.mir hZ hN,fun g w τ d h=>⟨h.1.on τ d,h.2⟩,fun g w τ d=>Ends.on τ d⟩ (fun τ d=>?_);obtain ⟨e,w',fr,hR,hcome,hfn,hleave⟩:=hC τ d [trap P];have hne:e≠.outgrown:=fun k=>by subst k;exact hout τ d w' hR
 have hst:Steps P (lone (Frame.enter P f args .normal) [trap P] (w.on τ d)) (lone fr [trap P] w'):=by
  cases e with
  |returned v=>exact hcome
  |panicked c=>exact hcome
  |outgrown=>exact absurd rfl hne
 obtain ⟨n,hn⟩:=hst;refine mM hZ hN (T:=Ends P f R) ?_ n _ _ _ w' (hS.on τ d) hn ⟨τ,d,w'.tape,w'.drawn,e,fr,hR,rfl,hfn,hleave,hne⟩;rintro g w ⟨_,_,_,_,_,fr,_,rfl,_⟩;exact ⟨by simp,rfl,rfl⟩
end
end
