/- Part of a proof. -/
import Derived.Test.YtnapepbdohidgaaGreatDoorQM11
set_option maxHeartbeats 4000000
set_option maxRecDepth 100000
namespace Go.Proofs.YtnapepbdohidgaaGreatDoorQ
section
open Go
theorem gL {α:Type}{p p':α->Bool}(hp:∀a,p a=true->p' a=true){l:Array α}(h:l.all p=true):l.all p'=true:=by
 rw [Array.all_eq_true] at h ⊢;exact fun i hi=>hp _ (h i hi)
section
variable {P:Program} {F F':FuncId->Bool} (hF:∀f,F f=true->F' f=true)
include hF
theorem jG {x:Operand}(h:okX P F x=true):okX P F' x=true:=by
 cases x with
 |func f=>exact hF f h
 |_=>exact h
theorem tT {b:Builtin}(h:zI F b=true):zI F' b=true:=by
 unfold zI at h ⊢;rw [Bool.or_eq_true] at h ⊢;refine h.imp id (fun h=>?_);cases b<;>first|exact hF _ h|exact h
theorem jH {c:Call}(h:iX P F c=true):iX P F' c=true:=by
 unfold iX at h ⊢;rw [bT] at h ⊢;refine ⟨?_,gL (fun _=>jG hF) h.2⟩;have h1:=h.1;cases hc:c.callee with
 |builtin b=>rw [hc] at h1;simp only [bT] at h1 ⊢;exact ⟨tT hF h1.1,h1.2⟩
 |value f=>rw [hc] at h1;exact jG hF h1
 |invoke a b=>rw [hc] at h1;exact h1
theorem sp {c:Call}(h:jx P F c=true):jx P F' c=true:=by
 unfold jx at h ⊢;rw [Bool.or_eq_true,bT] at h ⊢;refine h.imp (jH hF) (fun h=>⟨?_,gL (fun _=>jG hF) h.2⟩);have h1:=h.1;split at h1
 ·rw [bT] at h1 ⊢;exact ⟨hF _ h1.1,h1.2⟩
 ·cases h1
theorem tU {o:Op}(h:fq P F o=true):fq P F' o=true:=by
 have hx:∀ {x:Operand},okX P F x=true->okX P F' x=true:=fun h=>jG hF h
 have ho:∀ {x:Option Operand},x.all (okX P F)=true->x.all (okX P F')=true:=fun {x} h=>by
  cases x with
  |none=>rfl
  |some x=>exact hx h
 cases o with
 |makeFunc f a c=>
  cases f with
  |func f=>
   simp only [fq,bT] at h ⊢;exact ⟨⟨hF _ h.1.1,gL (fun _=>hx) h.1.2⟩,gL (fun _=>hx) h.2⟩
  |_=>exact h
 |makeMap t r=>cases r<;>exact h
 |call c=>exact sp hF h
 |defer c=>simp only [fq,bT,Bool.or_eq_true] at h ⊢;exact ⟨h.1.imp (hF _) (hF _),jH hF h.2⟩
 |go c=>simp only [fq,bT] at h ⊢;exact ⟨hF _ h.1,jH hF h.2⟩
 |slice t x lo hi mx=>simp only [fq,bT] at h ⊢;exact ⟨⟨⟨hx h.1.1.1,ho h.1.1.2⟩,ho h.1.2⟩,ho h.2⟩
 |build t ps=>exact gL (fun _=>hx) h
 |buildSlice t n ps=>exact gL (fun _=>hx) h
 |recv t x b=>simp only [fq,bT] at h ⊢;exact ⟨hF _ h.1,hx h.2⟩
 |makeChan t x=>simp only [fq,bT] at h ⊢;exact ⟨hF _ h.1,hx h.2⟩
 |send a x=>simp only [fq,bT] at h ⊢;exact ⟨⟨hF _ h.1.1,hx h.1.2⟩,hx h.2⟩
 |pick a b c=>simp only [fq,bT] at h ⊢;exact ⟨⟨hx h.1.1,hx h.1.2⟩,hx h.2⟩
 |binOp op t a x r=>simp only [fq,bT] at h ⊢;exact ⟨⟨hx h.1.1,hx h.1.2⟩,h.2⟩
 |store t a x=>simp only [fq,bT] at h ⊢;exact ⟨hx h.1,hx h.2⟩
 |makeSlice t a x=>simp only [fq,bT] at h ⊢;exact ⟨hx h.1,hx h.2⟩
 |indexAddr t a x=>simp only [fq,bT] at h ⊢;exact ⟨hx h.1,hx h.2⟩
 |index t a x=>simp only [fq,bT] at h ⊢;exact ⟨hx h.1,hx h.2⟩
 |convert s d x=>simp only [fq,bT] at h ⊢;exact ⟨h.1,hx h.2⟩
 |lookup t x i b=>simp only [fq,bT] at h ⊢;exact ⟨⟨h.1.1,hx h.1.2⟩,hx h.2⟩
 |mapUpdate t m k x=>simp only [fq,bT] at h ⊢;exact ⟨⟨⟨h.1.1.1,hx h.1.1.2⟩,hx h.1.2⟩,hx h.2⟩
 |_=>first|exact hx h|exact h
theorem eu:∀ {c:Code},aA P F c=true->aA P F' c=true:=by
 intro c;induction c with
 |region id ops d=>intro h;exact gL (fun _=>tU hF) h
 |seq a b iha ihb=>intro h;simp only [aA,bT] at h ⊢;exact ⟨iha h.1,ihb h.2⟩
 |cond c a b iha ihb=>intro h;simp only [aA,bT] at h ⊢;exact ⟨⟨jG hF h.1.1,iha h.1.2⟩,ihb h.2⟩
 |block id a ih=>intro h;exact ih h
 |loop a ih=>intro h;exact ih h
 |scope a ih=>intro h;exact ih h
 |rangeFunc f ps a b iha ihb=>intro h;simp only [aA,bT] at h ⊢;exact ⟨⟨jG hF h.1.1,iha h.1.2⟩,ihb h.2⟩
 |_=>intro h;exact h
end
structure Ren.sub' (ρ ρ':Ren):Prop where
 rel:∀a b,ρ a b->ρ' a b
 prog:ρ'.prog=ρ.prog
 F:∀f,ρ.F f=true->ρ'.F f=true
 bad:ρ'.bad=ρ.bad
section
variable {ρ ρ':Ren} (l:ρ.sub' ρ')
include l
theorem RA.re {a a':Addr}(h:RA ρ a a'):RA ρ' a a':=⟨l.rel _ _ h.1,h.2⟩
theorem RAo.re {a a':Option Addr}(h:RAo ρ a a'):RAo ρ' a a':=by
 cases h with
 |none=>exact .none
 |some h=>exact .some (RA.re l h)
theorem RNo.re {a a':Option Nat}(h:RNo ρ a a'):RNo ρ' a a':=by
 cases h with
 |none=>exact .none
 |some h=>exact .some (l.rel _ _ h)
theorem RFn.re {a a':Fn}(h:RFn ρ a a'):RFn ρ' a a':=by
 cases h with
 |func f h=>exact .func f (l.F _ h)
 |yield h=>exact .yield (l.rel _ _ h)
theorem RV.re {v v':Value}(h:RV ρ v v'):RV ρ' v v':=by
 induction h with
 |bool b=>exact .bool b
 |int k n=>exact .int k n
 |string s=>exact .string s
 |pointer h=>exact .pointer (RAo.re l h)
 |slice n c h=>exact .slice n c (RAo.re l h)
 |map h=>exact .map (RNo.re l h)
 |chan h=>exact .chan (RNo.re l h)
 |func hf ha hc _ _ i1 i2=>exact .func (RFn.re l hf) ha hc i1 i2
 |nilFunc=>exact .nilFunc
 |iface t _ ih=>exact .iface t ih
 |nilIface=>exact .nilIface
 |agg hc _ ih=>exact .agg hc ih
 |tuple hc _ ih=>exact .tuple hc ih
 |dead v' h=>exact .dead v' h
 |odd n s a c hn=>exact .odd n s a c (hn.trans l.bad.symm)
theorem RVs.re {c c':Array Value}(h:RVs ρ c c'):RVs ρ' c c':=⟨h.size,fun i v v' h1 h2=>RV.re l (h.at_ i v v' h1 h2)⟩
theorem RT.re {a a':Target}(h:RT ρ a a'):RT ρ' a a':=by
 cases h with
 |fn hf hc=>exact .fn (RFn.re l hf) (RVs.re l hc)
 |nil=>exact .nil
 |builtin b hb a ha t cs=>exact .builtin b (tT l.F hb) a (by rw [l.prog];exact ha) t cs
 |collected h=>exact .collected (l.rel _ _ h)
theorem RD.re {a a':Deferred}(h:RD ρ a a'):RD ρ' a a':=by
 cases h with
 |mk h1 h2=>exact .mk (RT.re l h1) (RVs.re l h2)
 |odd n v a s c a' hn=>exact .odd n v a s c a' (hn.trans l.bad.symm)
theorem RDs.re {a a':List Deferred}(h:RDs ρ a a'):RDs ρ' a a':=by
 induction h with
 |nil=>exact .nil
 |cons h _ hS ih=>exact .cons (RD.re l h) ih (hS.imp id (fun k=>by
  rw [Bool.or_eq_true] at k ⊢;exact k.imp (l.F _) (l.F _)))
theorem RL.re {a a':Loop}(h:RL ρ a a'):RL ρ' a a':=⟨h.state,h.pending,h.fn,RVs.re l h.tmps,h.params,h.assign,h.body,l.rel _ _ h.defers,by rw [l.prog];exact eu l.F h.okA,by rw [l.prog];exact eu l.F h.okBo,fun c e=>by rw [l.prog];exact eu l.F (h.okP c e)⟩
theorem RMs.re {a a':List MapEntry}(h:RMs ρ a a'):RMs ρ' a a':=by
 induction h with
 |nil=>exact .nil
 |cons b hk h _ ih=>exact .cons b (RV.re l hk) (RV.re l h) ih
theorem RO.re (hb:ρ'.F j7=ρ.F j7){a a':Obj}(h:RO ρ a a')(hc:a.isChan=true->RO ρ' a a'):RO ρ' a a':=by
 cases h with
 |cells e hz h=>exact .cells e (by rw [hb];exact hz) (RVs.re l h)
 |chan=>exact hc rfl
 |map c h=>exact .map c (RMs.re l h)
 |stringIter s n=>exact .stringIter s n
 |loop h=>exact .loop (RL.re l h)
 |deferred h=>exact .deferred (RDs.re l h)
 |taken=>exact .taken
 |number b h=>exact .number b (RA.re l h)
 |dead _ h=>exact .dead _ h
variable {P:Program}
theorem RI.re {i i':Item}(h:RI P ρ i i'):RI P ρ' i i':=by
 cases h with
 |code h=>exact .code (eu l.F h)
 |inBlock id=>exact .inBlock id
 |inLoop h=>exact .inLoop (eu l.F h)
 |inScope h=>exact .inScope (eu l.F h)
 |inRegion k h=>exact .inRegion k (gL (fun _=>tU l.F) h)
 |regionEnd a b=>exact .regionEnd a b
 |inRangeFunc h=>exact .inRangeFunc (l.rel _ _ h)
 |endRangeFunc h=>exact .endRangeFunc (l.rel _ _ h)
 |beginRound=>exact .beginRound
theorem RIs.re {k k':List Item}(h:RIs P ρ k k'):RIs P ρ' k k':=by
 induction h with
 |nil=>exact .nil
 |cons h _ ih=>exact .cons (RI.re l h) ih
theorem RPn.re {k k':List PanicEntry}(h:RPn ρ k k'):RPn ρ' k k':=by
 induction h with
 |nil=>exact .nil
 |cons r g h _ ih=>exact .cons r g (RV.re l h) ih
theorem RM.re {m m':FrameMode}(h:RM ρ m m'):RM ρ' m m':=by
 cases h with
 |run=>exact .run
 |returning=>exact .returning
 |panicking h=>exact .panicking (RPn.re l h)
theorem RFr.re {f f':Frame}(h:RFr P ρ f f'):RFr P ρ' f f':=⟨h.fn,RVs.re l h.tmps,RIs.re l h.todo,RDs.re l h.defers,RM.re l h.mode,h.early,RNo.re l h.round⟩
theorem RFs.re {X Y:List Frame×List Frame}(hY:RFs P ρ' Y X.1 X.2)(h2:2<=X.1.length)(hne:Y.2.length<X.2.length){k k':List Frame}(h:RFs P ρ X k k'):RFs P ρ' Y k k':=by
 induction h with
 |base=>exact hY
 |cons h hk hl ih=>
  refine .cons (RFr.re l h) ⟨fun _=>hk.1 (.inr h2),fun e=>?_⟩ ih;have:=hl.len;rw [e] at this;omega
theorem RGo.re {X Y:List Frame×List Frame}(hY:RFs P ρ' Y X.1 X.2)(h2:2<=X.1.length)(hne:Y.2.length<X.2.length){g g':Goroutine}(h:RGo P ρ X g g'):RGo P ρ' Y g g':=by
 refine ⟨RFr.re l h.frame,RFs.re l hY h2 hne h.callers,⟨fun _=>h.kind.1 (.inr h2),fun e=>?_⟩,h.status,h.dying,h.offers⟩;have:=h.callers.len;rw [e] at this;omega
end
end
section
open Go
open Go.Conc (crowd Past EvL Deaf QuitsD)
variable {P:Program} [Two P]
def Ren.back (ρ ρ0:Ren):Ren where
 rel:=ρ.rel
 fn:=ρ.fn
 inj:=ρ.inj
 prog:=ρ.prog
 F:=ρ0.F
 old:=fun _=>False
 ch:=fun _=>False
 loose:=false
 wide:=false
 tight:=fun _=>rfl
 pin:=ρ.pin
 bad:=ρ.bad
 noM:=ρ.noM
theorem xI {D:PhD P}{Post:Value->World->Prop}{ρ0:Ren}(hR0:∀a b,ρ0 a b->D.R0 a b)(hI:GId P ρ0)(hE:fh P ρ0.F)(hS:ρ0.F ft=false)(hBM:ρ0.F j8=false)(hF:∀f,D.Fp f=true->ρ0.F f=true)(hFb:ρ0.F j7=D.Fp j7)(hO0:ρ0.bad=D.U.bad)(hX:RFs P ρ0 ([trap P.alt],[]) D.X.1 D.X.2)(h2:2<=D.X.1.length)(h3:0<D.X.2.length)
  (hsolo:∀h V,LSs P.alt D.T D.h0 D.V0 h V->nG P D.U ρ0.F [] Post h V):
  ∀ρ h g V W n s q tm gs sl t qs,Side P D.X ρ h g V W D.cV D.c []->xH D ρ V W->Kp D.U W/\Off D.U ρ->W.heap[D.c]?=some (.chan n #[] true s q tm)->LSs P.alt D.T D.h0 D.V0 h V->gs[0]?=some g->Lv P (fun _=>False) t gs qs->Past gq W.heap.size t->Fin P Post gs W sl t:=by
 intro ρ h g V W n s q tm gs sl t qs S O hU hrow hp h0 hL hP;have hprog:ρ0.prog=ρ.prog:=hI.prog.trans S.gid.prog.symm;have l0:ρ0.sub' (ρ.back ρ0):=⟨fun a b k=>O.base.1 a b (hR0 a b k),hprog.symm,fun f k=>k,hU.2.2.2.2.trans hO0.symm⟩;have l1:ρ.sub' (ρ.back ρ0):=⟨fun a b k=>k,rfl,fun f k=>hF f (by rw [<-O.base.2];exact k),rfl⟩;have hX':RFs P (ρ.back ρ0) ([trap P.alt],[]) D.X.1 D.X.2:=by
  have key:∀ {k k':List Frame},RFs P ρ0 ([trap P.alt],[]) k k'->RFs P (ρ.back ρ0) ([trap P.alt],[]) k k':=fun h=>by
   induction h with
   |base=>exact .base
   |cons h hk _ ih=>exact .cons (RFr.re l0 h) hk ih
  exact key hX
 refine hsolo h V hp gs g W sl t qs (ρ.back ρ0) h0 hL hP ⟨RGo.re l1 hX' h2 h3 S.go,⟨fun a b hab=>?_,fun a k=>k.elim,fun c k=>k.elim,S.sim.os,fun hb a c0 hp=>S.sim.pin (by rw [O.base.2,<-hFb];exact hb) a c0 hp⟩,⟨fun g hg=>O.base.1 _ _ (hR0 _ _ (hI.glob g hg)),S.gid.prog,hI.code,hI.alt,fun _ _ k=>k,hI.same,hI.size,hI.apart⟩,hE,hS,rfl,⟨rfl,rfl⟩,⟨hBM,fun a b o hab ho hc=>?_⟩,hU⟩
 rotate_left
 ·by_cases ha:a=D.cV
  ·subst ha;obtain ⟨n1,b1,s1,q1,tm1,k1,k2⟩:=S.row;rw [k1] at ho;cases ho;have hb:b1=#[]:=Array.toList_inj.1 (by simpa using k2);subst hb;exact ⟨_,_,_,_,rfl⟩
  ·obtain ⟨n1,s1,q1,tm1,n2,s2,q2,k1,k2⟩:=O.rest a b (O.all a b o hab ho hc) hab ha;rw [k1] at ho;cases ho;exact ⟨_,_,_,_,rfl⟩
 obtain ⟨o,o',e1,e2,e3⟩:=S.sim.obj a b hab;refine ⟨o,o',e1,e2,RO.re l1 (by rw [O.base.2];exact hFb) e3 (fun hc=>?_)⟩;by_cases ha:a=D.cV
 ·subst ha;obtain rfl:b=D.c:=ρ.fn _ _ _ hab S.pair;obtain ⟨n1,b1,s1,q1,tm1,k1,k2⟩:=S.row;rw [k1] at e1;cases e1;rw [hrow] at e2;cases e2;have hb:b1=#[]:=Array.toList_inj.1 (by simpa using k2);subst hb;cases e3;exact .chan _ _ _ _ _ _ _ _ _ (.inr RVs.nil) (.inr rfl)
 ·obtain ⟨n1,s1,q1,tm1,n2,s2,q2,k1,k2⟩:=O.rest a b (O.all a b o hab e1 hc) hab ha;rw [k1] at e1;cases e1;rw [k2] at e2;cases e2;exact .chan _ _ _ _ _ _ _ _ _ (.inr RVs.nil) (.inr rfl)
end
section
open Go
open Go.Conc (crowd Past EvL Deaf QuitsD)
def du (P:Program):Frame:={(default:Frame) with fn:=P.funcs.size,defers:=[],mode:=.panicking [goexitEntry]}
section
variable {P:Program}
theorem ss (w:World):stepG P false {frame:=du P,callers:=[],status:=.running,dying:=none} w=.go {frame:=du P,callers:=[],status:=.finished,dying:=none} w #[]:=by
 have hc:(du P).catches P=false:=by
  have e:(du P).todo=[]:=rfl;unfold Frame.catches;rw [e];cases P.funcs[(du P).fn]?<;>rfl
 have e:stepG P false {frame:=du P,callers:=[],status:=.running,dying:=none} w=unwind P false (du P) [] none w:=rfl;rw [e];unfold unwind;simp only [hc];rfl
theorem vw {fr:Frame}{fn:Func}(hf:P.funcs[fr.fn]?=some fn)(hr:fn.results=#[])(hm:fr.mode=.returning)(hd:fr.defers=[])(w:World):stepG P false {frame:=fr,callers:=[du P],status:=.running,dying:=none} w=.go {frame:=du P,callers:=[],status:=.running,dying:=none} w #[]:=by
 have e1:(results fn fr.tmps).runT P w #[]=(.ok (.tuple #[]) w,#[]):=by
  unfold results;rw [hr,Array.mapM_eq_mapM_toList];rfl
 have e2:doReturn P false fr [du P] none (.tuple #[]) w=.go {frame:=du P,callers:=[],status:=.running,dying:=none} w #[]:=by
  unfold doReturn;cases h:fr.kind<;>rfl
 simp only [stepG,hm,unwind,hd,hf,e1,e2,eT,bP]
theorem vy {fr:Frame}{fn:Func}(hf:P.funcs[fr.fn]?=some fn)(hr:fn.results=#[])(hm:fr.mode=.returning)(hd:fr.defers=[]):QuitsD P 2 0 {frame:=fr,callers:=[du P],status:=.running,dying:=none}:=
 .inr ⟨rfl,_,#[],by simp,vw hf hr hm hd,.inr ⟨rfl,_,#[],by simp,ss,rfl,rfl⟩⟩
theorem qn {c n s q:Nat}{b:Array Value}{tm:Bool}{W:World}(at_:Array TypeId)(t:TypeId)(cs:Array Bool)(h:W.heap[c]?=some (.chan n b false s q tm)):(invoke (.builtin .close at_ t cs) #[.chan (some c)]).runT P W #[]=(.ok (.value (.tuple #[])) (dG W c n b s q tm),#[⟨.obj c,false,true⟩,⟨.obj c,true,true⟩]):=by
 show Sem.runT P (Sem.getObj c _) W #[]=_;simp only [Sem.runT,h];show Sem.runT P (Sem.setObj c (.chan n b true s q tm) _) W _=_;simp only [Sem.runT,h];rfl
variable [Two P]
def Cg (P:Program) [Two P](f:FuncId)(cs:Nat)(h:Goroutine):Prop:=
 h.callers=[trap P.alt]/\h.frame.fn=f/\h.frame.mode=.returning/\∃at_ t k,h.frame.defers=[{target:=.builtin .close at_ t k,args:=#[.chan (some cs)]}]
theorem Ai {f:FuncId}{fn:Func}(hfn:P.funcs[f]?=some fn)(hres:fn.results=#[]){ρ:Ren}{h g:Goroutine}{V W:World}{cs c:Nat}{L:List Value}(S:Snd P ([trap P.alt],[du P]) ρ h g V W cs c L)(hA:Cg P f cs h){n:Nat}{b:Array Value}{s q:Nat}{tm:Bool}(hrow:W.heap[c]?=some (.chan n b false s q tm)):
  ∃g',mayWake P g=true/\g'.status=.running/\stepG P false g W=.go g' (dG W c n b s q tm) #[⟨.obj c,false,true⟩,⟨.obj c,true,true⟩]/\∃m,QuitsD P m 0 g':=by
 obtain ⟨h1,h2,h3,at_,t,k,h4⟩:=hA;have hcs:g.callers=[du P]:=by
  have hl:=S.go.callers;rw [h1] at hl;generalize hX:(([trap P.alt],[du P]):List Frame×List Frame)=X at hl;generalize hl0:[trap P.alt]=l at hl;generalize g.callers=l' at hl ⊢;cases hl with
  |base=>rw [<-hX]
  |cons _ _ hl=>
   cases hl0;have:=hl.len1;rw [<-hX] at this;simp at this
 have hm:g.frame.mode=.returning:=by
  have:=S.go.frame.mode;rw [h3] at this;generalize g.frame.mode=x at this;cases this;rfl
 have hd:g.frame.defers=[{target:=.builtin .close at_ t k,args:=#[.chan (some c)]}]:=by
  have:=S.go.frame.defers;rw [h4] at this;generalize g.frame.defers=x at this;cases this with
  | @cons _ d' _ _ hd hl _=>
   cases hl;obtain ⟨tg,ar⟩:=d';obtain ⟨ht,ha⟩:=hd;simp only at ht ha;cases ht;have hsz:=ha.size;obtain ⟨l⟩:=ar;rcases l with - |⟨x,- |⟨y,l⟩⟩<;>simp at hsz
   have:=ha.at_ 0 _ x rfl rfl;cases this with
   |chan hc=>
    cases hc with
    |some hc=>rw [ρ.fn _ _ _ hc S.pair]
 have hfn':P.funcs[g.frame.fn]?=some fn:=by rw [<-S.go.frame.fn,h2];exact hfn
 have hse:seen P g.frame.fn #[⟨.obj c,false,true⟩,⟨.obj c,true,true⟩]=#[⟨.obj c,false,true⟩,⟨.obj c,true,true⟩]:=by unfold seen;simp
 obtain ⟨fr,cl,st,dy,of⟩:=g;simp only at hcs hm hd hfn' hse;subst hcs;have hdy:dy=none:=S.go.dying.2;subst hdy;refine ⟨{frame:={fr with defers:=[]},callers:=[du P],status:=.running,dying:=none},?_,rfl,?_,2,vy (fr:={fr with defers:=[]}) hfn' hres hm rfl⟩
 ·simp only [mayWake,hm]
 ·simp only [stepG,hm,unwind,hd];unfold callDeferred;simp only [qn at_ t k hrow];simp [hse,GStep.after]
end
end
section
open Go
variable {P:Program} [Two P]
theorem Ch {U:Outer}{G:FuncId->Bool}{Post:Value->World->Prop}{f page:FuncId}{R:(Nat->Question->Nat)->Nat->Ending->World->Prop}(hpage:G page=false)(hinit:P.inits.idxOf? f=none)
  (hR:∀τ d e u,R τ d e u->e=.returned (.bool true)\/∃t a c r x l,e=.panicked ({v:=.iface t (.func (.func page) a c),recovered:=r,goexit:=x} :: l))
  (hpost:∀h V ρ g W ρ' W',Ends P.alt f R h V->h.frame.mode=.returning->Rel P U G [] ρ h g V W->ρ.le ρ'->br ρ' V W'->Kp U W'->Post (.bool true) W'):Leaf P U G (Ends P.alt f R) Post:=by
 intro h g V W ρ hT hRel d;have hT0:=hT;obtain ⟨τ,d0,τ',d',e,fr,hr,rfl,hfn,hlv,-⟩:=hT;have hcs:g.callers=[]:=RFs.nil_of hRel.go.callers;obtain ⟨gf,gc,gst,gd,go⟩:=g;simp only at hcs;subst hcs;obtain rfl:gd=none:=hRel.go.dying.2;have hfr:=hRel.go.frame;simp only at hfr;rcases hR _ _ _ _ hr with rfl|⟨t,a,c,r,x,l,rfl⟩
 ·obtain ⟨hm,hd,hk,fn,hfa,hrun⟩:=hlv;have hm':gf.mode=.returning:=by
   have:=hfr.mode;rw [hm] at this;generalize gf.mode=y at this;cases this;rfl
  have hd':gf.defers=[]:=by
   have:=hfr.defers;rw [hd] at this;generalize gf.defers=y at this;cases this;rfl
  obtain ⟨fn2,hf2⟩:∃fn2,P.funcs[fr.fn]?=some fn2:=by
   cases hx:P.funcs[fr.fn]? with
   |some y=>exact ⟨y,rfl⟩
   |none=>rw [(jD hRel.gid fr.fn).2 hx] at hfa;cases hfa
  rw [mj hRel.gid hfa hf2 fr.tmps] at hrun;have hS:br ρ (V.on τ' d') (W.at d):=⟨hRel.sim.obj,hRel.sim.fix,hRel.sim.chan,hRel.sim.os,hRel.sim.pin⟩;have hrs:RS P QV ρ (results fn2 fr.tmps) (results fn2 gf.tmps):=nE fn2 hfr.tmps;have halt:((results fn2 fr.tmps).runT P.alt (V.on τ' d') #[]).1=.ok (.bool true) (V.on τ' d'):=by rw [Sem.runT_fst];exact hrun
  obtain ⟨m1,o1⟩:=ou hrs (V.on τ' d') ((W.at d).on τ' d') #[] #[] ⟨hRel.sim.obj,hRel.sim.fix,hRel.sim.chan,hRel.sim.os,hRel.sim.pin⟩ (fun i _=>rfl);have hP1:(results fn2 fr.tmps).runT P (V.on τ' d') #[]=(results fn2 fr.tmps).runT P.alt (V.on τ' d') #[]:=by
   rcases o1 with ⟨-,x,u,k,-⟩|⟨k,-⟩
   ·rw [halt] at k;cases k
   ·exact k.symm
  have hP2:((results fn2 fr.tmps).runT P (V.on W.tape d) #[]).1=.ok (.bool true) (V.on W.tape d):=by
   have m3:=m1.2.2;have hw:((results fn2 fr.tmps).runT P (V.on τ' d') #[]).1=.ok (.bool true) (V.on τ' d'):=by rw [hP1];exact halt
   have:=m3 W.tape d (fun i hi=>by rw [hw] at hi;simp only [Result.w] at hi;omega);rw [xD] at this;rw [this];show Result.on W.tape d d' ((results fn2 fr.tmps).runT P (V.on τ' d') #[]).1=_;rw [hw];show Result.ok _ ((V.on τ' d').on W.tape (d+(d'-d')))=_;rw [Nat.sub_self,Nat.add_zero,xD]
  obtain ⟨-,o2⟩:=ou hrs (V.on W.tape d) (W.at d) #[] #[] ⟨hRel.sim.obj,hRel.sim.fix,hRel.sim.chan,hRel.sim.os,hRel.sim.pin⟩ (fun i _=>rfl);rcases o2 with ⟨⟨x,u,k,-⟩,-⟩|⟨-,ρ',le,S',hRR,K,-,-,E,-,-⟩
  ·rw [hP2] at k;cases k
  rw [hP2] at hRR S';generalize hcr:(results fn2 gf.tmps).runT P (W.at d) #[]=cr at hRR S' K E;obtain ⟨r2,es⟩:=cr;simp only at hRR S' K E;cases hRR with
  | @ok _ v' _ W' hv=>
   have hv:RV ρ' (.bool true) v':=hv;cases hv;obtain ⟨E0,hE1,hE2⟩:=E;refine ⟨.bool true,seen P gf.fn es,ρ',V.on W.tape d,W',?_,hpost _ V ρ _ W ρ' W' hT0 hm hRel le ⟨S'.obj,S'.fix,S'.chan,S'.os,S'.pin⟩ (hRel.out.1.keep hRel.out.2 ⟨K.os,K.output,K.tape,K.size,K.block⟩),S',K.size,fun e he=>hE2 e (by have:=dz he;rw [hE1] at this;simpa using this)⟩;have hf2':P.funcs[gf.fn]?=some fn2:=by rw [<-hfr.fn];exact hf2
   have hin:P.inits.idxOf? gf.fn=none:=by rw [<-hfr.fn,hfn];exact hinit
   have hret:doReturn P true gf [] none (.bool true) W'=.ended (.done (.bool true)) W':=by
    unfold doReturn;have:=hfr.early.2.2;cases hkd:gf.kind with
    |report=>exact absurd hkd this
    |_=>simp [hin]
   simp only [stepG,hm',unwind,hd',hf2',hcr,hret];simp [GStep.after]
 ·obtain ⟨hm,-⟩:=hlv;exfalso;have:=hfr.mode;rw [hm] at this;generalize gf.mode=y at this;cases this with
  |panicking hp=>
   cases hp with
   |cons _ _ hv _=>
    cases hv with
    |iface _ hv=>
     cases hv with
     |func hf _ _ _ _=>
      cases hf with
      |func _ hF=>rw [hRel.same,hpage] at hF;cases hF
end
section
open Go
open Go.Conc (crowd Past EvL Deaf QuitsD woken awake crowd_pick runT_crowd_go)
open Go.ConcN (sumTo upd sumTo_upd upd_ne upd_same)
variable {P:Program} {Post:Value->World->Prop}
theorem bu (W:World)(a b:Nat):(W.at a).at b=W.at b:=rfl
theorem xJ {g g' child:Goroutine}{W:World}(hr:g.status=.running)(h:∀d,stepG P true g (W.at d)=.spawn g' child (W.at d) #[]){ρr ρs:Ren}
  (hfin:∀ (gs:Array Goroutine) (sl:Option (Nat×Nat)) (t:Trace) (q:Nat->Nat) (d k:Nat),k≠0->gs[0]?=some g'->gs[k]?=some child->Lv P (fun i=>i=k) t gs q->PhT 0 k ρr ρs W.heap.size t->Fin P Post gs (W.at d) sl t):
  ∀ (gs:Array Goroutine) (sl:Option (Nat×Nat)) (t:Trace) (q:Nat->Nat) (d:Nat),gs[0]?=some g->Lv P (fun _=>False) t gs q->Past gq W.heap.size t->Fin P Post gs (W.at d) sl t:=by
 intro gs sl t q d h0 hL hP;obtain ⟨M,hM⟩:∃M,sumTo gs.size q<=M:=⟨_,lR _⟩;induction M using Nat.strongRecOn generalizing gs sl t q d with
 |_ M ihM=>
  obtain ⟨i,x,d',sl',hi,hx,hst⟩:=crowd_pick (P:=P) (w:=W.at d) (sl:=sl) (gI hL h0 hr) ⟨0,g,h0,hr⟩;rw [bu] at hst;have hlt:0<gs.size:=(eS h0).1;rcases Nat.eq_zero_or_pos i with rfl|hpos
  ·obtain rfl:x=g:=by rw [h0] at hi;exact (Option.some.inj hi).symm
   have hrt:=Conc.runT_crowd_spawn (P:=P) (sl:=sl') (i:=0) hi (show stepG P (0==0) x (W.at d')=_ from h d');have hops:((MemOp.ofEvents 0 x.frame.fn x.frame.place #[]).push {g:=0,fn:=x.frame.fn,pos:=x.frame.place,act:=.go gs.size} |>.push {g:=gs.size,fn:=child.frame.fn,pos:=x.frame.place,act:=.start})=#[{g:=0,fn:=x.frame.fn,pos:=x.frame.place,act:=.go gs.size},{g:=gs.size,fn:=child.frame.fn,pos:=x.frame.place,act:=.start}]:=rfl;rw [hops] at hrt;have hst2:∀op∈(#[{g:=0,fn:=x.frame.fn,pos:=x.frame.place,act:=.go gs.size},{g:=gs.size,fn:=child.frame.fn,pos:=x.frame.place,act:=.start}]:Trace),op.act≠.mark .disable/\op.act≠.mark .enable:=fun op hop=>by
    simp at hop;rcases hop with rfl|rfl<;>exact ⟨by simp,by simp⟩
   refine Fin.next (hst.trans hrt) (hfin _ sl' _ q d' gs.size (by omega) (by rw [Array.getElem?_push,if_neg (by simp;omega)];simp [hlt]) (by rw [Array.getElem?_push,if_pos (by simp)]) ⟨fun j y hj hjk hy=>?_,fun j hj=>?_⟩ (PhT.start hP (by omega) (hL.above gs.size (lR _)) ⟨rfl,rfl⟩ ⟨rfl,rfl⟩))
   ·rw [bm t j _ hst2];refine hL.old j y hj (fun k=>k) ?_;simp only [Array.getElem?_push,Array.size_setIfInBounds] at hy;rw [if_neg hjk,sN (by omega)] at hy;exact hy
   ·rw [bm t j _ hst2];exact hL.above j (by simp at hj;omega)
  ·obtain ⟨gs',q',ops,e1,e2,e3,e4,e5,e6,-⟩:=slip (w:=W.at d) (d:=d') hL hP (ja W.heap.size) hi hx hpos (fun k=>k) (firm0 h0 hr _) (by rw [bu];exact hst);rw [bu] at e1;exact Fin.next e1 (ihM _ (by omega) gs' sl' (t++ops) q' d' ((e3 0 (.inl rfl)).trans h0) e4 e5 (lR _))
end
section
open Go
inductive Good:Value->Prop
 |bool (b:Bool):Good (.bool b)
 |int (k:IntKind) (n:Int):Good (.int k n)
 |string (s:ByteArray):Good (.string s)
 |pointer (a:Option Addr):Good (.pointer a)
 |slice (a:Option Addr) (n c:Nat):Good (.slice a n c)
 |map (r:Option Nat):Good (.map r)
 |chan (r:Option Nat):Good (.chan r)
 |nilFunc:Good .nilFunc
 |nilIface:Good .nilIface
 |agg {c:Array Value} (h:∀ (i:Nat) v,c[i]?=some v->Good v):Good (.agg c)
 |tuple {c:Array Value} (h:∀ (i:Nat) v,c[i]?=some v->Good v):Good (.tuple c)
section
variable {ρ σ:Ren}
theorem mr {Q:Value->Value->Value->Prop}{c c':Array Value}(hc:c.size=c'.size)(h:∀ (i:Nat) v v',c[i]?=some v->c'[i]?=some v'->∃v0,Q v v' v0):
  ∃c0:Array Value,c0.size=c'.size/\∀ (i:Nat) v v',c[i]?=some v->c'[i]?=some v'->∃v0,c0[i]?=some v0/\Q v v' v0:=by
 have hx:∀i:_root_.Fin c'.size,∃v0,Q (c[i.1]'(by omega)) c'[i.1] v0:=fun i=>h i.1 _ _ (eG _) (eG _)
 refine ⟨Array.ofFn fun i=>(hx i).choose,by simp,fun i v v' h1 h2=>?_⟩;obtain ⟨hi,e1⟩:=eS h1;obtain ⟨hi',e2⟩:=eS h2;refine ⟨(hx ⟨i,hi'⟩).choose,?_,?_⟩
 ·rw [Array.getElem?_ofFn];simp [hi']
 ·have:=(hx ⟨i,hi'⟩).choose_spec;rw [<-e1,<-e2];exact this
theorem tV {c c' c0:Array Value}(hc:c.size=c'.size)(h0:c0.size=c'.size)(h:∀ (i:Nat) v v',c[i]?=some v->c'[i]?=some v'->∃v0,c0[i]?=some v0/\RV σ v0 v'/\(Good v->v0=v))(hg:∀ (i:Nat) v,c[i]?=some v->Good v):c0=c:=by
 refine Array.ext (by omega) (fun i h1 h2=>?_);have h3:i<c'.size:=by omega
 obtain ⟨v0,e,-,k⟩:=h i _ _ (eG h2) (eG h3);have:=k (hg i _ (eG h2));rw [eG h1] at e;cases e;exact this
theorem su {c c' c0:Array Value}(hc:c.size=c'.size)(h0:c0.size=c'.size)(h:∀ (i:Nat) v v',c[i]?=some v->c'[i]?=some v'->∃v0,c0[i]?=some v0/\RV σ v0 v'/\(Good v->v0=v)):∀ (i:Nat) v v',c0[i]?=some v->c'[i]?=some v'->RV σ v v':=fun i v v' h1 h2=>by
 have hi:i<c'.size:=(eS h2).1;obtain ⟨v0,e,k,-⟩:=h i _ v' (eG (by omega)) h2;rw [h1] at e;cases e;exact k
theorem Ci (hrel:∀a b,ρ a b->σ a b)(ho:σ.bad=ρ.bad){v v':Value}(h:RV ρ v v'):∃v0,RV σ v0 v'/\(Good v->v0=v):=by
 have hAo:∀ {a a':Option Addr},RAo ρ a a'->RAo σ a a':=fun h=>by
  cases h with
  |none=>exact .none
  |some h=>exact .some ⟨hrel _ _ h.1,h.2⟩
 have hNo:∀ {a a':Option Nat},RNo ρ a a'->RNo σ a a':=fun h=>by
  cases h with
  |none=>exact .none
  |some h=>exact .some (hrel _ _ h)
 induction h with
 |bool b=>exact ⟨_,.bool b,fun _=>rfl⟩
 |int k n=>exact ⟨_,.int k n,fun _=>rfl⟩
 |string s=>exact ⟨_,.string s,fun _=>rfl⟩
 |pointer h=>exact ⟨_,.pointer (hAo h),fun _=>rfl⟩
 |slice n c h=>exact ⟨_,.slice n c (hAo h),fun _=>rfl⟩
 |map h=>exact ⟨_,.map (hNo h),fun _=>rfl⟩
 |chan h=>exact ⟨_,.chan (hNo h),fun _=>rfl⟩
 |func hf ha hc _ _ _ _=>exact ⟨_,.dead _ (by cases hf<;>rfl),fun k=>by cases k⟩
 |nilFunc=>exact ⟨_,.nilFunc,fun _=>rfl⟩
 |iface t h _=>exact ⟨_,.dead _ rfl,fun k=>by cases k⟩
 |nilIface=>exact ⟨_,.nilIface,fun _=>rfl⟩
 |agg hc _ ih=>
  obtain ⟨c0,h0,h1⟩:=mr hc ih;exact ⟨.agg c0,.agg h0 (su hc h0 h1),fun k=>by cases k with|agg k=>rw [tV hc h0 h1 k]⟩
 |tuple hc _ ih=>
  obtain ⟨c0,h0,h1⟩:=mr hc ih;exact ⟨.tuple c0,.tuple h0 (su hc h0 h1),fun k=>by cases k with|tuple k=>rw [tV hc h0 h1 k]⟩
 |dead v' h=>exact ⟨_,.dead v' h,fun _=>rfl⟩
 |odd n s a c hn=>exact ⟨_,.odd n s a c (hn.trans ho.symm),fun k=>by cases k⟩
theorem tW (hrel:∀a b,ρ a b->σ a b)(ho:σ.bad=ρ.bad){c c':Array Value}(h:RVs ρ c c'):∃c0,RVs σ c0 c'/\c0.size=c.size/\∀ (i:Nat) v,c[i]?=some v->Good v->c0[i]?=some v:=by
 obtain ⟨c0,h0,h1⟩:=mr h.size (fun i v v' h1 h2=>Ci (σ:=σ) hrel ho (h.at_ i v v' h1 h2));refine ⟨c0,⟨h0,su h.size h0 h1⟩,by rw [h0,h.size],fun i v hv hg=>?_⟩;have hi:i<c.size:=(eS hv).1;obtain ⟨v0,e,-,k⟩:=h1 i v _ hv (eG (by rw [<-h.size];exact hi));rw [e,k hg]
theorem Cj (hrel:∀a b,ρ a b->σ a b)(ho:σ.bad=ρ.bad)(hF:σ.F j7=false){o o':Obj}(h:RO ρ o o'):∃o0,RO σ o0 o'/\Fixed o0/\o0.isChan=false/\∀c e z,o=.cells c e z->∃c0 z0,o0=.cells c0 e z0/\∀ (i:Nat) v,c[i]?=some v->Good v->c0[i]?=some v:=by
 cases h with
 | @cells c c' e z z' hz h=>
  obtain ⟨c0,k1,k2,k3⟩:=tW hrel ho h;refine ⟨.cells c0 e (0,max (max c.size z'.2) 1),.cells e (.inr ⟨hF,rfl,by simp;omega,by simp only;omega,by simp only;omega⟩) k1,⟨rfl,by simp only;omega⟩,rfl,fun c1 e1 z1 hc=>?_⟩;cases hc;exact ⟨c0,_,rfl,k3⟩
 |number b h=>exact ⟨_,.number b ⟨hrel _ _ h.1,h.2⟩,trivial,rfl,fun _ _ _ h=>by cases h⟩
 |dead o' h=>exact ⟨_,.dead o' h,trivial,rfl,fun _ _ _ h=>by cases h⟩
 |_=>exact ⟨_,.dead _ rfl,trivial,rfl,fun _ _ _ h=>by cases h⟩
end
def tX (o:Obj):Prop:=(∃c e z,o=.cells c e z)\/Fixed o
def Ren.low (ρ:Ren)(F:FuncId->Bool)(live:Nat->Prop)(c:Nat)(wide:Bool)(ht:F ft=true->wide=false):Ren where
 rel:=ρ.rel
 fn:=ρ.fn
 inj:=ρ.inj
 prog:=ρ.prog
 F:=F
 old:=fun a=>(∃b,ρ a b)/\¬live a/\a≠c
 ch:=fun a=>a=c
 loose:=true
 wide:=wide
 tight:=ht
 pin:=ρ.pin
 bad:=ρ.bad
 noM:=ρ.noM
theorem lower {ρ:Ren}{V W:World}(S:br ρ V W){F:FuncId->Bool}{live:Nat->Prop}{c c':Nat}{wide:Bool}(ht:F ft=true->wide=false)(hF:F j7=false)(hc:ρ c c'){n n' s s' q q':Nat}{b b':Array Value}{cl cl' tm:Bool}(hW:W.heap[c']?=some (.chan n' b' cl' s' q' tm))(hcl:wide=true\/cl=cl')
  (hlive:∀a,live a->a≠c/\∃x e z,V.heap[a]?=some (.cells x e z)/\(∀ (i:Nat) v,x[i]?=some v->Good v)/\∀y,ρ a y->∃x',W.heap[y]?=some (.cells x' e z)):
  ∃V':World,br (ρ.low F live c wide ht) V' W/\V'.heap.size=V.heap.size/\V'.tape=V.tape/\V'.drawn=V.drawn/\V'.os=V.os/\V'.heap[c]?=some (.chan n b cl s q tm)/\(∀ (a:Nat) o,V'.heap[a]?=some o->o.isChan=true->a=c) /\
   (∀a y i v,ρ a y->V.cell? ⟨a,i,none⟩=some v->Good v->V'.cell? ⟨a,i,none⟩=some v)/\(∀a,live a->V'.heap[a]?=V.heap[a]?)/\∀a y,ρ a y->a≠c->∃o,V'.heap[a]?=some o/\tX o:=by
 classical
 generalize hσ:ρ.low F live c wide ht=σ;have hrel:∀a b,ρ a b->σ a b:=fun a b h=>by subst hσ;exact h
 have hrel':∀a b,σ a b->ρ a b:=fun a b h=>by subst hσ;exact h
 have hF':σ.F j7=false:=by subst hσ;exact hF
 have ho:σ.bad=ρ.bad:=by subst hσ;rfl
 have hlt:=(S.lt hc).1;have key:∀a:Nat,∃o0:Obj,(∀y,ρ a y->a≠c->∃o',W.heap[y]?=some o'/\RO σ o0 o')/\(a≠c->¬live a->Fixed o0)/\(a≠c->o0.isChan=false)/\(∀y x e z,ρ a y->a≠c->V.heap[a]?=some (.cells x e z)->∃x0 z0,o0=.cells x0 e z0/\∀ (i:Nat) v,x[i]?=some v->Good v->x0[i]?=some v)/\(live a->V.heap[a]?=some o0)/\(a=c->o0=.chan n b cl s q tm):=fun a=>by
  by_cases hac:a=c
  ·exact ⟨.chan n b cl s q tm,fun _ _ k=>absurd hac k,fun k=>absurd hac k,fun k=>absurd hac k,fun _ _ _ _ _ k=>absurd hac k,fun k=>absurd hac (hlive a k).1,fun _=>rfl⟩
  by_cases hl:live a
  ·obtain ⟨-,x,e,z,h1,h2,h3⟩:=hlive a hl;refine ⟨.cells x e z,fun y hy _=>?_,fun _ k=>absurd hl k,fun _=>rfl,fun y x1 e1 z1 hy _ hx=>?_,fun _=>h1,fun k=>absurd k hac⟩
   ·obtain ⟨o,o',k1,k2,k3⟩:=S.obj a y hy;obtain ⟨x',k4⟩:=h3 y hy;rw [h1] at k1;cases k1;rw [k4] at k2;cases k2;cases k3 with
    |cells e hz h=>
     obtain ⟨c0,m1,m2,m3⟩:=tW (σ:=σ) hrel ho h;have:c0=x:=by
      refine Array.ext m2 (fun i i1 i2=>?_);have:=m3 i _ (eG i2) (h2 i _ (eG i2));rw [eG i1] at this;exact Option.some.inj this
     subst this;exact ⟨_,k4,.cells e (.inl rfl) m1⟩
   ·rw [h1] at hx;cases hx;exact ⟨_,_,rfl,fun i v h _=>h⟩
  by_cases hy:∃y,ρ a y
  ·obtain ⟨y,hy⟩:=hy;obtain ⟨o,o',k1,k2,k3⟩:=S.obj a y hy;obtain ⟨o0,m1,m2,m3,m4⟩:=Cj (σ:=σ) hrel ho hF' k3;refine ⟨o0,fun y2 hy2 _=>?_,fun _ _=>m2,fun _=>m3,fun y2 x e z hy2 _ hx=>?_,fun k=>absurd k hl,fun k=>absurd k hac⟩
   ·obtain rfl:=ρ.fn _ _ _ hy hy2;exact ⟨o',k2,m1⟩
   ·rw [hx] at k1;cases k1;exact m4 x e z rfl
  ·exact ⟨.coro none,fun y k=>absurd ⟨y,k⟩ hy,fun _ _=>trivial,fun _=>rfl,fun y _ _ _ k=>absurd ⟨y,k⟩ hy,fun k=>absurd k hl,fun k=>absurd k hac⟩
 obtain ⟨f,key⟩:=Classical.skolem.1 key;generalize hV':({V with heap:=Array.ofFn (n:=V.heap.size) fun a=>f a.1}:World)=V';have hsz:V'.heap.size=V.heap.size:=by subst hV';simp
 have row:∀a,a<V.heap.size->V'.heap[a]?=some (f a):=fun a ha=>by
  subst hV';simp [ha]
 have rowc:V'.heap[c]?=some (.chan n b cl s q tm):=by rw [row c hlt,(key c).2.2.2.2.2 rfl]
 have onlyc:∀ (a:Nat) o,V'.heap[a]?=some o->o.isChan=true->a=c:=fun a o ho hch=>by
  refine Classical.byContradiction fun hne=>?_
  have ha:a<V.heap.size:=by rw [<-hsz];exact (eS ho).1
  rw [row a ha] at ho;cases ho;rw [(key a).2.2.1 hne] at hch;cases hch
 refine ⟨V',⟨fun a y hay=>?_,fun a hold=>?_,fun a hch=>?_,?_,fun hb=>by rw [hF'] at hb;cases hb⟩,hsz,by subst hV';rfl,by subst hV';rfl,by subst hV';rfl,rowc,onlyc,fun a y i v hay hv hg=>?_,fun a hl=>?_,fun a y hay hne=>?_⟩
 ·have hay:=hrel' _ _ hay;have ha:=(S.lt hay).1;by_cases hac:a=c
  ·subst hac;obtain rfl:=ρ.fn _ _ _ hay hc;subst hσ;exact ⟨_,_,rowc,hW,.chan _ _ _ _ _ _ _ _ _ (.inl rfl) hcl⟩
  ·obtain ⟨o',k1,k2⟩:=(key a).1 y hay hac;exact ⟨_,o',row a ha,k1,k2⟩
 ·subst hσ;obtain ⟨⟨y,hy⟩,h1,h2⟩:=hold;exact ⟨_,row a (S.lt hy).1,(key a).2.1 h2 h1⟩
 ·subst hσ;have hch:a=c:=hch;subst hch;exact ⟨_,rowc,rfl⟩
 ·subst hV';exact S.os
 ·have ha:=(S.lt hay).1;unfold World.cell? at hv ⊢;rw [row a ha];cases hr:V.heap[a]? with
  |none=>rw [hr] at hv;cases hv
  |some o=>
   rw [hr] at hv;cases o with
   |cells x e z=>
    by_cases hac:a=c
    ·subst hac;obtain ⟨o,o',k1,k2,k3⟩:=S.obj a c' hc;rw [hW] at k2;cases k2;rw [hr] at k1;cases k1;cases k3
    ·obtain ⟨x0,z0,k1,k2⟩:=(key a).2.2.2.1 y x e z hay hac hr;rw [k1];simp only at hv ⊢;exact k2 i v hv hg
   |_=>cases hv
 ·have ha:a<V.heap.size:=by
   obtain ⟨-,x,e,z,h1,-⟩:=hlive a hl;exact (eS h1).1
  exact (row a ha).trans ((key a).2.2.2.2.1 hl).symm
 ·refine ⟨_,row a (S.lt hay).1,?_⟩;by_cases hl:live a
  ·obtain ⟨-,x,e,z,h1,-⟩:=hlive a hl;have:=(key a).2.2.2.2.1 hl;rw [h1] at this;exact .inl ⟨x,e,z,(Option.some.inj this).symm⟩
  ·exact .inr ((key a).2.1 hne hl)
section
variable {P:Program} {N T:Goroutine->World->Prop} {g g':Goroutine} {w w':World}
theorem LC.status {c:CommCase}{s:CommShape}(h:LC P g c s w g' w'):g'.status=.running:=by
 cases h with
 |dead _ _ _ hg=>exact hg
 |_=>rfl
theorem LS.status (h:LS P g w g' w'):g'.status=.running:=by
 cases h with
 |go _ hr _=>exact hr
 |comm _ hc=>exact hc.status
theorem LS.next (hr:g.status=.running)(h:LS P g w g' w'){m:Machine}(hs:step P (solo g w)=.next m):m=solo g' w'\/∃b,b.status=.blocked/\m.gs=#[b]/\∃u,m=solo b u:=by
 cases h with
 |go h _ _=>
  rw [jE hr h] at hs;exact .inl (by cases hs;rfl)
 | @comm g1 c s w1 es _ _ h hc=>
  rw [qh hr h] at hs;by_cases hg1:g1.status=.running
  ·rcases qi hg1 hs with ⟨b,q,hb,rfl⟩|rfl
   ·obtain ⟨rfl,rfl⟩:=(LS.comm h hb).fn (LS.comm h hc);exact .inl rfl
   ·exact .inr ⟨_,rfl,rfl,_,rfl⟩
  ·have hs':(communicate P {timers:=#[],alone:=none,slice:=none} #[away] 0 g1 #[c] true s w1).1=.next m:=hs
   obtain ⟨ch,sd,z⟩:=c;cases hc with
   |dead _ _ _ hg=>exact absurd hg hg1
   |send h1 h2 h3 h4=>
    simp only at h1 h2;subst h1;subst h2;simp [communicate,ways,h3,bQ,h4,choose,Sem.run,Question.forced,bind,Sem.bind,pure] at hs';exact .inl hs'.symm
   |recv h1 h2 h3 h4=>
    simp only at h1 h2;subst h1;subst h2;simp [communicate,ways,h3,bQ,h4,choose,Sem.run,Question.forced,bind,Sem.bind,pure] at hs';refine .inl ?_;rw [<-hs'];simp [solo,h4]
   |shut h1 h2 h3=>
    simp only at h1 h2;subst h1;subst h2;simp [communicate,ways,h3,bQ,choose,Sem.run,Question.forced,bind,Sem.bind,pure] at hs';exact .inl hs'.symm
theorem xK (hT:∀g w,T g w->∀n g2 w2,runN P n (solo g w)=.next (solo g2 w2)->g2.callers.length<=1):∀ (n:Nat)(g:Goroutine)(w:World),Dem P N T g w->g.status=.running->∀g2 w2,runN P n (solo g w)=.next (solo g2 w2)->g2.status=.running->1<g2.callers.length->LSs P T g w g2 w2/\Dem P N T g2 w2:=by
 intro n;induction n with
 |zero=>
  intro g w hD _ g2 w2 h _ _;simp only [runN,Stepped.next.injEq] at h;have e1:#[g]=#[g2]:=congrArg Machine.gs h;have e2:w=w2:=congrArg Machine.world h;simp at e1;subst e1;subst e2;exact ⟨.refl _ _,hD⟩
 |succ n ih=>
  intro g w hD hr g2 w2 h hr2 hl;cases hD with
  |stop k=>
   have:=hT g w k _ _ _ h;omega
  |step hN hnT hgo hn=>
   obtain ⟨g',w',hls⟩:=hgo w.tape w.drawn;have hls':LS P g w g' w':=hls;simp only [runN] at h;cases hs:step P (solo g w) with
   |ended o u=>rw [hs] at h;cases h
   |next m=>
    rw [hs] at h;rcases hls'.next hr hs with rfl|⟨b,hb,-,u,rfl⟩
    ·obtain ⟨k1,k2⟩:=ih g' w' (hn _ _ _ _ hls) hls.status g2 w2 h hr2 hl;exact ⟨.step hnT w.tape w.drawn hls k1,k2⟩
    ·cases n with
     |zero=>
      simp only [runN,Stepped.next.injEq] at h;have e1:#[b]=#[g2]:=congrArg Machine.gs h;simp at e1;subst e1;rw [hb] at hr2;cases hr2
     |succ n=>
      obtain ⟨o,z,e⟩:=gH (P:=P) (w:=u) (g:=b) hb;simp only [runN,e] at h;cases h
theorem Dem.on (hN:∀g w τ d,N g w->N g (w.on τ d))(hT:∀g w τ d,T g (w.on τ d)↔T g w)(h:Dem P N T g w)(τ:Nat->Question->Nat)(d:Nat):Dem P N T g (w.on τ d):=by
 cases h with
 |stop k=>exact .stop ((hT _ _ _ _).2 k)
 |step h1 h2 h3 h4=>exact .step (hN _ _ _ _ h1) (fun k=>h2 ((hT _ _ _ _).1 k)) h3 h4
theorem LSs.on {τ:Nat->Question->Nat}{d:Nat}(hT:∀g w τ d,T g (w.on τ d)↔T g w){g2:Goroutine}{w2:World}(h:LSs P T g (w.on τ d) g2 w2):(g2=g/\w2=w.on τ d)\/LSs P T g w g2 w2:=by
 cases h with
 |refl=>exact .inl ⟨rfl,rfl⟩
 |step hnT τ' d' h hs=>exact .inr (.step (fun k=>hnT ((hT _ _ _ _).2 k)) τ' d' h hs)
theorem nJ {f:FuncId}{R:(Nat->Question->Nat)->Nat->Ending->World->Prop}(h:Ends P f R g w):∀n g2 w2,runN P n (solo g w)=.next (solo g2 w2)->g2.callers.length<=1:=by
 obtain ⟨τ,d,τ',d',e,fr,-,rfl,-,hlv,hne⟩:=h;intro n g2 w2 hrun;have same:∀ {a b:Goroutine} {u v:World},solo a u=solo b v->a=b:=fun h=>by
  have e1:=congrArg Machine.gs h;simpa [solo] using e1
 cases n with
 |zero=>
  simp only [runN,Stepped.next.injEq] at hrun;rw [<-same hrun];exact lR _
 |succ n=>
  have hst:(∃o u es,stepG P true {frame:=fr,callers:=[trap P],status:=.running,dying:=none} w=.ended o u es)\/∃f1 u es,stepG P true {frame:=fr,callers:=[trap P],status:=.running,dying:=none} w=.go {frame:=f1,callers:=[],status:=.running,dying:=none} u es/\(f1=trap P\/∃c,f1=(trap P).raise c):=by
   cases e with
   |outgrown=>exact absurd rfl hne
   |panicked c=>
    obtain ⟨hm,hd,fn,hf⟩:=hlv;have hc:fr.catches P=false:=by unfold Frame.catches;rw [hf]
    refine .inr ⟨(trap P).raise c,w,#[],?_,.inr ⟨c,rfl⟩⟩;simp only [stepG,hm,unwind,hd,hc];rfl
   |returned v=>
    obtain ⟨hm,hd,hk,fn,hf,-⟩:=hlv;have e0:stepG P true {frame:=fr,callers:=[trap P],status:=.running,dying:=none} w=unwind P true fr [trap P] none w:=by simp only [stepG,hm]
    rw [e0];unfold unwind;simp only [hd,hm,hf];cases hr:(results fn fr.tmps).runT P w #[] with
    |mk r es=>
     cases r with
     |ok v u=>
      obtain ⟨f1,e1,h1⟩:=iG (P:=P) fr (by rw [hk];rfl) v u;simp only [e1];exact .inr ⟨f1,_,_,rfl,h1⟩
     |halt x u=>cases x<;>exact .inl ⟨_,_,_,rfl⟩
  simp only [runN] at hrun;rcases hst with ⟨o,u,es,he⟩|⟨f1,u,es,he,hf1⟩
  ·rw [et (g:={frame:=fr,callers:=[trap P],status:=.running,dying:=none}) rfl he] at hrun;cases hrun
  ·rw [jE (g:={frame:=fr,callers:=[trap P],status:=.running,dying:=none}) rfl he] at hrun;cases n with
   |zero=>
    simp only [runN,Stepped.next.injEq] at hrun;rw [<-same hrun];exact Nat.zero_le _
   |succ n=>
    obtain ⟨o,z,es2,e2⟩:=qj (P:=P) hf1 u;simp only [runN,et (g:={frame:=f1,callers:=[],status:=.running,dying:=none}) rfl e2] at hrun;cases hrun
end
def Marks (ρ:Ren)(l:List Deferred):Prop:=∀d∈l,∃r b,d.target=.collected r/\ρ r b
theorem RDs.marks {ρ:Ren}(hS:(ρ.F ft||ρ.F j8)=false){l l':List Deferred}(h:RDs ρ l l'):Marks ρ l:=by
 induction h with
 |nil=>exact fun d hd=>by cases hd
 | @cons d d' l l' h _ hk ih=>
  intro x hx;rcases List.mem_cons.1 hx with rfl|hx
  ·rcases hk with ⟨r,hr⟩|hk
   ·cases h with
    |odd=>cases hr
    |mk this _=>
     rw [hr] at this;generalize d'.target=y at this;cases this with
     |collected k=>exact ⟨r,_,hr,k⟩
   ·rw [hS] at hk;cases hk
  ·exact ih x hx
inductive Fl (P:Program)(ρ:Ren):List Frame->Prop
 |base:Fl P ρ [trap P]
 |cons {f:Frame} {l:List Frame} (hc:f.catches P=false) (hm:Marks ρ f.defers) (hl:Fl P ρ l):Fl P ρ (f::l)
theorem RFs.fl {P Q:Program}{ρ:Ren}(hS:(ρ.F ft||ρ.F j8)=false){l l':List Frame}(h:RFs P ρ ([trap Q],[]) l l'):Fl Q ρ l:=by
 generalize hX:(([trap Q],[]):List Frame×List Frame)=X at h;induction h with
 |base=>rw [<-hX];exact .base
 |cons h _ _ ih=>exact .cons (eq h Q).1 (h.defers.marks hS) ih
def Ce (V w:World):Prop:=w.heap.size=V.heap.size/\∀a,w.cell? a=V.cell? a
theorem Ck {P:Program}{f:FuncId}{R:(Nat->Question->Nat)->Nat->Ending->World->Prop}{ρ:Ren}{en:PanicEntry}{V:World}{g:Goroutine}{w:World}(hD:Dem P (fun g _=>NB [trap P] g) (Ends P f R) g w):
  ∀l,g.frame.mode=.panicking (en::l)->g.dying=none->g.frame.catches P=false->Marks ρ g.frame.defers->Fl P ρ g.callers->(∀r b,ρ r b->∀l,w.heap[r]?=some (.deferred (some l))->Marks ρ l)->Ce V w->∃τ d l u,R τ d (.panicked (en::l)) u/\Ce V u:=by
 induction hD with
 | @stop g w hT=>
  intro l hm hdy _ _ _ _ hce;obtain ⟨τ,d,τ',d',e,fr,hR,rfl,-,hlv,hne⟩:=hT;simp only at hm;cases e with
  |outgrown=>exact absurd rfl hne
  |returned v=>
   obtain ⟨h,-⟩:=hlv;rw [hm] at h;cases h
  |panicked c=>
   obtain ⟨h,-⟩:=hlv;rw [hm] at h;cases h;exact ⟨τ,d,l,_,hR,hce⟩
 | @step g w hN hT hgo hn ih=>
  intro l hm hdy hcat hmk hfl hrow hce;obtain ⟨g',w',hls⟩:=hgo w.tape w.drawn;have hls':LS P g w g' w':=hls;have hun:stepG P true g w=unwind P true g.frame g.callers none w:=by
   obtain ⟨fr,cs,st,dy,off⟩:=g;simp only at hm hdy;subst hdy;simp only [stepG,hm]
  cases hdf:g.frame.defers with
  |cons x ds=>
   obtain ⟨r,b,hx,hrb⟩:=hmk x (by rw [hdf];exact List.mem_cons_self ..);obtain ⟨tg,ar⟩:=x;simp only at hx;subst hx;have hrun:∀l0,w.heap[r]?=some (.deferred (some l0))->(Instr.takeDeferred r).runT P w #[]=(.ok l0 {w with heap:=w.heap.setIfInBounds r (.deferred none)},#[⟨.obj r,false,false⟩,⟨.obj r,true,false⟩]):=fun l0 h0=>by
    unfold Instr.takeDeferred;show Sem.runT P (Sem.getObj r _) w #[]=_;simp only [Sem.runT,h0];show Sem.runT P (Sem.setObj r (.deferred none) _) w _=_;simp only [Sem.runT,h0];rfl
   have hbad:(∀l0,w.heap[r]?≠some (.deferred (some l0)))->∃h u es,(Instr.takeDeferred r).runT P w #[]=(.halt h u,es):=fun hno=>by
    unfold Instr.takeDeferred;show ∃h u es,Sem.runT P (Sem.getObj r _) w #[]=(.halt h u,es);cases h0:w.heap[r]? with
    |none=>simp only [Sem.runT,h0];exact ⟨_,_,_,rfl⟩
    |some o=>
     cases o with
     |deferred q=>
      cases q with
      |none=>simp only [Sem.runT,h0];exact ⟨_,_,_,rfl⟩
      |some l0=>exact absurd h0 (hno l0)
     |_=>simp only [Sem.runT,h0];exact ⟨_,_,_,rfl⟩
   unfold unwind at hun;simp only [hdf] at hun;by_cases hex:∃l0,w.heap[r]?=some (.deferred (some l0))
   ·obtain ⟨l0,h0⟩:=hex;rw [hrun l0 h0] at hun;have hun2:∃es,stepG P true g w=.go {frame:={g.frame with defers:=l0++ds},callers:=g.callers,status:=.running,dying:=none} {w with heap:=w.heap.setIfInBounds r (.deferred none)} es:=⟨_,hun⟩;obtain ⟨es,hun2⟩:=hun2;cases hls' with
    |comm h _=>rw [hun2] at h;cases h
    |go h _ _=>
     rw [hun2] at h;cases h;refine ih _ _ _ _ hls l hm rfl hcat (fun d hd=>?_) hfl (fun r1 b1 hr1 l1 h1=>?_) ⟨?_,fun a=>?_⟩
     ·rcases List.mem_append.1 hd with k|k
      ·exact hrow r b hrb l0 h0 d k
      ·exact hmk d (by rw [hdf];exact List.mem_cons_of_mem _ k)
     ·by_cases e:r=r1
      ·subst e;simp only at h1;rw [sS (eS h0).1] at h1;cases h1
      ·simp only [sN e] at h1;exact hrow r1 b1 hr1 l1 h1
     ·simp only [Array.size_setIfInBounds];exact hce.1
     ·rw [<-hce.2 a];unfold World.cell?;by_cases e:r=a.block
      ·simp only [<-e,sS (eS h0).1,h0]
      ·simp only [sN e]
   ·obtain ⟨h,u,es,hb⟩:=hbad (fun l0 k=>hex ⟨l0,k⟩);rw [hb] at hun;exfalso;have:∃o u es,stepG P true g w=.ended o u es:=⟨_,_,_,hun⟩;obtain ⟨o,u,es,hun⟩:=this;cases hls' with
    |comm h _=>rw [hun] at h;cases h
    |go h _ _=>rw [hun] at h;cases h
  |nil=>
   unfold unwind at hun;simp only [hdf,hm,hcat] at hun;generalize hcs:g.callers=cs at hfl hun;cases hfl with
   |base=>
    exfalso;rcases hN hcs with k|k
    ·rw [hm] at k;cases k
    ·exact k hdf
   | @cons c rest hc1 hm1 hl1=>
    have hun2:stepG P true g w=.go {frame:=c.raise (en::l),callers:=rest,status:=.running,dying:=none} w #[]:=hun;cases hls' with
    |comm h _=>rw [hun2] at h;cases h
    |go h _ _=>
     rw [hun2] at h;cases h;have hr:∃l2,(c.raise (en::l)).mode=.panicking (en::l2):=by
      unfold Frame.raise;cases c.mode with
      |panicking ch=>exact ⟨l++ch,rfl⟩
      |_=>exact ⟨l,rfl⟩
     obtain ⟨l2,hr⟩:=hr;have hk:(c.raise (en::l)).defers=c.defers/\(c.raise (en::l)).catches P=c.catches P:=by
      unfold Frame.raise Frame.catches;cases c.mode<;>exact ⟨rfl,rfl⟩
     exact ih _ _ _ _ hls l2 hr rfl (by rw [hk.2];exact hc1) (by rw [hk.1];exact hm1) hl1 hrow hce
end
section
open Go
open Go.Conc (crowd Past EvL Deaf QuitsD woken awake crowd_pick runT_crowd_go Goes AtRel goes_elim)
open Go.ConcN (sumTo upd sumTo_upd upd_ne upd_same)
variable {P:Program} {Post:Value->World->Prop}
def DB (B:Nat):World->World->Array Event->Prop:=fun _ _ es=>∀e∈es,EvL gq B e
def DD (P:Program)(Post:Value->World->Prop)(B:Nat)(g:Goroutine)(W:World):Prop:=
 ∀ (gs:Array Goroutine) (sl:Option (Nat×Nat)) (t:Trace) (q:Nat->Nat),gs[0]?=some g->Lv P (fun _=>False) t gs q->Past gq B t->Fin P Post gs W sl t
theorem tY {B:Nat}:∀ {n:Nat}{g:Goroutine}{W:World},Goes P true AtRel (DB B) (DD P Post B) n g W->DD P Post B g W:=by
 intro n;induction n with
 |zero=>intro g W h;exact h W ⟨W.drawn,rfl⟩
 |succ n ih=>
  intro g W h gs sl t q h0 hL hP;rcases h with h|⟨hr,h⟩
  ·exact h W ⟨W.drawn,rfl⟩ gs sl t q h0 hL hP
  ·obtain ⟨M,hM⟩:∃M,sumTo gs.size q<=M:=⟨_,lR _⟩;obtain ⟨d0,hd0⟩:∃d0,W=W.at d0:=⟨W.drawn,rfl⟩;rw [hd0];clear hd0;induction M using Nat.strongRecOn generalizing gs sl t q d0 with
   |_ M ihM=>
    obtain ⟨i,x,d',sl',hi,hx,hst⟩:=crowd_pick (P:=P) (w:=W.at d0) (sl:=sl) (gI hL h0 hr) ⟨0,g,h0,hr⟩;rw [bu] at hst;rcases Nat.eq_zero_or_pos i with rfl|hpos
    ·obtain rfl:x=g:=by rw [h0] at hi;exact (Option.some.inj hi).symm
     obtain ⟨g',W',es,hgo,hev,hnx⟩:=goes_elim (h (W.at d') ⟨d',rfl⟩);obtain ⟨gs',ops,e1,e2,e3,e4,-,e6⟩:=oF (w:=W.at d0) hL hi (.inl rfl) (d:=d') (by rw [bu];exact hst) (show stepG P (0==0) x ((W.at d0).at d')=_ from hgo);subst e2;exact Fin.next e1 (ih hnx gs' sl' _ q e4 e6 (hP.own hev))
    ·obtain ⟨gs',q',ops,e1,e2,e3,e4,e5,e6,-⟩:=slip (w:=W.at d0) (d:=d') hL hP (ja B) hi hx hpos (fun k=>k) (firm0 h0 hr _) (by rw [bu];exact hst);rw [bu] at e1;exact Fin.next e1 (ihM _ (by omega) gs' sl' (t++ops) q' ((e3 0 (.inl rfl)).trans h0) e4 e5 (lR _) d')
end
