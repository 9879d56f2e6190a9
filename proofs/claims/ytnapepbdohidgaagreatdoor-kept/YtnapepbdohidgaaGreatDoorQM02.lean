/- Part of a proof. -/
import Derived.Test.YtnapepbdohidgaaGreatDoorQM01
set_option maxHeartbeats 4000000
set_option maxRecDepth 100000
namespace Go.Proofs.YtnapepbdohidgaaGreatDoorQ
section
open Go
def _root_.Go.Result.w {α:Type}:Result α->World
 | .ok _ w=>w
 | .halt _ w=>w
def _root_.Go.Result.on {α:Type}(τ:Nat->Question->Nat)(d n:Nat):Result α->Result α
 | .ok a w=>.ok a (w.on τ (d+(w.drawn-n)))
 | .halt h w=>.halt h (w.on τ (d+(w.drawn-n)))
def Mir {α:Type}(p:Program)(s:Sem α)(w:World)(es:Array Event):Prop:=
 (s.runT p w es).1.w.tape=w.tape/\w.drawn<=(s.runT p w es).1.w.drawn/\∀τ d,Like w (s.runT p w es).1.w τ d->s.runT p (w.on τ d) es=((s.runT p w es).1.on τ d w.drawn,(s.runT p w es).2)
theorem gy {α:Type}(p:Program)(s:Sem α)(w:World)(es:Array Event)(r:World->Result α)(hr:∀u,(r u).w=u)(hon:∀u τ d n,(r u).on τ d n=r (u.on τ (d+(u.drawn-n))))(h:∀τ d,s.runT p (w.on τ d) es=(r (w.on τ d),es)):Mir p s w es:=by
 have h0:s.runT p w es=(r w,es):=h w.tape w.drawn;refine ⟨?_,?_,fun τ d _=>?_⟩
 ·rw [h0,hr]
 ·rw [h0,hr];exact lR _
 ·rw [h0,hon,h τ d];simp
theorem gl {α:Type}(p:Program)(s s':Sem α)(w w':World)(es es':Array Event)(h:s.runT p w es=s'.runT p w' es')(ht:w'.tape=w.tape)(hd:w'.drawn=w.drawn)(hs:∀τ d,s.runT p (w.on τ d) es=s'.runT p (w'.on τ d) es')(hm:Mir p s' w' es'):Mir p s w es:=by
 obtain ⟨h1,h2,h3⟩:=hm;refine ⟨?_,?_,fun τ d hl=>?_⟩
 ·rw [h,h1,ht]
 ·rw [h,<-hd];exact h2
 ·rw [hs,h];rw [h] at hl;rw [h3 τ d (fun i hi=>by have:=hl i (by rw [<-hd];exact hi);rw [ht,hd];exact this),hd]
theorem wV (w:World)(τ:Nat->Question->Nat)(d:Nat)(a:Addr)(n:Nat):(w.on τ d).freeze a n=(w.freeze a n).on τ d:=by
 unfold World.freeze;have hh:(w.on τ d).heap=w.heap:=rfl;rw [hh];split<;>rfl
theorem bW (w:World)(a:Addr)(n:Nat):(w.freeze a n).tape=w.tape/\(w.freeze a n).drawn=w.drawn:=by
 unfold World.freeze;split<;>exact ⟨rfl,rfl⟩
def gz:Value->Bool
 | .agg _=>false
 | .tuple _=>false
 |_=>true
def okB:Builtin->Bool
 | .append| .cap| .clear| .copy| .len| .min=>true
 |_=>false
def BY (P:Program)(b:Builtin)(a:Array TypeId):Bool:=
 match b with
 | .len| .cap=>match a[0]? with
  |some t=>match P.underlying t with
   |some (.chan _ _)=>false
   |_=>true
  |none=>true
 |_=>true
def kL:Value->Bool
 | .bool _| .int _ _| .string _| .pointer none| .slice none _ _| .map none| .chan none| .nilFunc| .nilIface=>true
 |_=>false
def lE:Value->Bool
 | .agg c=>c.all kL
 | .tuple c=>c.all kL
 | .iface _ v=>kL v
 |v=>kL v
def zB:Value->Bool
 | .pointer none| .slice none _ _| .map none| .chan none| .nilFunc| .nilIface=>true
 |_=>false
def BZ:Operand->Bool
 | .const v=>zB v
 |_=>false
def okX (P:Program)(F:FuncId->Bool):Operand->Bool
 | .const v=>lE v
 | .global g=>decide (g<P.globals.size)
 | .func f=>F f
 |_=>true
def j7:FuncId:=1000000
def Dq:FuncId:=1000001
def ft:FuncId:=1000002
def j8:FuncId:=1000003
def zI (F:FuncId->Bool)(b:Builtin):Bool:=okB b||(match b with| .unsafeString=>F j7| .close=>F ft|_=>false)
def Mk (F:FuncId->Bool)(f:FuncId):Bool:=F (2000000+f)
def iX (P:Program)(F:FuncId->Bool)(c:Call):Bool:=
 (match c.callee with| .builtin b=>zI F b&&BY P b c.argTypes| .value f=>okX P F f| .invoke _ _=>false)&&c.args.all (okX P F)
def jx (P:Program)(F:FuncId->Bool)(c:Call):Bool:=
 iX P F c||(match c.callee with| .value (.func f)=>Mk F f&&c.args.size==2|_=>false)&&c.args.all (okX P F)
theorem uK {P:Program}{F:FuncId->Bool}{c:Call}(h:jx P F c=true):iX P F c=true\/∃f,c.callee=.value (.func f)/\Mk F f=true/\c.args.all (okX P F)=true/\c.args.size=2:=by
 unfold jx at h;rw [Bool.or_eq_true,bT] at h;rcases h with h|⟨h1,h2⟩
 ·exact .inl h
 ·split at h1
  ·rename_i f hf;rw [bT,beq_iff_eq] at h1;exact .inr ⟨f,hf,h1.1,h2,h1.2⟩
  ·cases h1
def wW (P:Program)(src dst:TypeId):Bool:=
 match P.underlying src,P.underlying dst with
 |some (.int _),some (.int _)=>true
 |some .string,some .string=>true
 |some .string,some (.slice _)=>true
 |some (.slice _),some .string=>true
 |_,_=>false
def gm:Option TypeDesc->Bool
 |some .bool|some .string|some (.int _)=>true
 |_=>false
def rM (P:Program):Nat->TypeId->Bool
 | 0,_=>false
 |n+1,t=>match P.underlying t with
  |some .bool|some .string|some (.int _)=>true
  |some (.struct fs)=>fs.all (fun f=>rM P n f.type)
  |_=>false
def uL (P:Program)(t:TypeId):Bool:=
 match P.underlying t with
 |some (.map k _)=>match P.underlying k with
  |some .string=>true
  |_=>false
 |_=>false
def Ez (P:Program)(op:BinOp)(t:TypeId)(x y:Operand):Bool:=
 match op with
 | .eql| .neq=>gm (P.underlying t)||BZ x||BZ y||rM P 6 t
 |_=>true
def fq (P:Program)(F:FuncId->Bool):Op->Bool
 | .move x| .assign x| .box _ x| .load _ x| .nilCheck x| .unOp _ _ x| .makeInterface _ x| .fieldAddr _ x _| .field _ x _| .extract x _=>okX P F x
 | .recv _ x _=>F Dq&&okX P F x
 | .makeChan _ x=>F j8&&okX P F x
 | .send a x=>F ft&&okX P F a&&okX P F x
 | .alloc _=>true
 | .pick c a b=>okX P F c&&okX P F a&&okX P F b
 | .build _ ps| .buildSlice _ _ ps=>ps.all (fun p=>okX P F p.2)
 | .binOp op t a x _=>okX P F a&&okX P F x&&Ez P op t a x
 | .store _ a x| .makeSlice _ a x| .indexAddr _ a x| .index _ a x=>okX P F a&&okX P F x
 | .convert s d x=>wW P s d&&okX P F x
 | .makeFunc (.func f) a c=>F f&&a.all (okX P F)&&c.all (okX P F)
 | .slice _ x lo hi mx=>okX P F x&&lo.all (okX P F)&&hi.all (okX P F)&&mx.all (okX P F)
 | .call c=>jx P F c
 | .go c=>F j8&&iX P F c
 | .defer c=>(F ft||F j8)&&iX P F c
 | .lookup t x i _=>uL P t&&okX P F x&&okX P F i
 | .mapUpdate t m k x=>uL P t&&okX P F m&&okX P F k&&okX P F x
 | .makeMap _ none=>true
 | .panic x=>okX P F x
 |_=>false
def aA (P:Program)(F:FuncId->Bool):Code->Bool
 | .region _ ops _=>ops.all (fun o=>fq P F o.op)
 | .seq a b=>aA P F a&&aA P F b
 | .cond c a b=>okX P F c&&aA P F a&&aA P F b
 | .block _ a=>aA P F a
 | .loop a=>aA P F a
 | .scope a=>aA P F a
 | .rangeFunc f _ a b=>okX P F f&&aA P F a&&aA P F b
 | .refuse _=>true
 | .skip| .exit _| .label _| .goto _| .ret=>true
def NoM (P : Program) (n : TypeId) : Prop := (P.info? n).all (fun i => (i.methods.find? (fun m => m.name == "")).isNone) = true
def gv:Value->Bool
 | .pointer (some _)| .slice (some _) _ _| .map (some _)| .chan (some _)| .iface _ _| .float _ _| .complex _ _ _| .tuple _=>true
 | .func (.method _) _ _=>false
 | .func _ _ _=>true
 |_=>false
def ot:Obj->Bool
 | .cells _ _ _| .pending _ _| .view _ _| .number _ _=>false
 |_=>true
structure Ren where
 rel:Nat->Nat->Prop
 fn:∀a b b',rel a b->rel a b'->b=b'
 inj:∀a a' b,rel a b->rel a' b->a=a'
 prog:Program
 F:FuncId->Bool
 old:Nat->Prop
 ch:Nat->Prop
 loose:Bool
 wide:Bool
 tight:F ft=true->wide=false
 pin:Nat->Option (Array Value)
 bad:TypeId
 noM:NoM prog bad
instance:CoeFun Ren (fun _=>Nat->Nat->Prop):=⟨Ren.rel⟩
structure Ren.le (ρ ρ':Ren):Prop where
 sub:∀a b,ρ a b->ρ' a b
 prog:ρ'.prog=ρ.prog
 F:ρ'.F=ρ.F
 old:ρ'.old=ρ.old
 ch:ρ'.ch=ρ.ch
 loose:ρ'.loose=ρ.loose
 wide:ρ'.wide=ρ.wide
 pin:ρ'.pin=ρ.pin
 bad:ρ'.bad=ρ.bad
instance (ρ ρ':Ren):CoeFun (Ren.le ρ ρ') (fun _=>∀a b,ρ a b->ρ' a b):=⟨Ren.le.sub⟩
theorem Ren.le_refl (ρ:Ren):ρ.le ρ:=⟨fun _ _ h=>h,rfl,rfl,rfl,rfl,rfl,rfl,rfl,rfl⟩
theorem Ren.le_trans {a b c:Ren}(h:a.le b)(h':b.le c):a.le c:=⟨fun x y k=>h' x y (h x y k),h'.prog.trans h.prog,h'.F.trans h.F,h'.old.trans h.old,h'.ch.trans h.ch,h'.loose.trans h.loose,h'.wide.trans h.wide,h'.pin.trans h.pin,h'.bad.trans h.bad⟩
def RA (ρ:Ren)(a a':Addr):Prop:=ρ a.block a'.block/\a.off=a'.off/\a.spot=a'.spot
inductive RAo (ρ:Ren):Option Addr->Option Addr->Prop
 |none:RAo ρ none none
 |some {a a':Addr} (h:RA ρ a a'):RAo ρ (some a) (some a')
inductive RNo (ρ:Ren):Option Nat->Option Nat->Prop
 |none:RNo ρ none none
 |some {a a':Nat} (h:ρ a a'):RNo ρ (some a) (some a')
inductive RFn (ρ:Ren):Fn->Fn->Prop
 |func (f:FuncId) (h:ρ.F f=true):RFn ρ (.func f) (.func f)
 |yield {l l':Nat} (h:ρ l l'):RFn ρ (.yield l) (.yield l')
inductive RV (ρ:Ren):Value->Value->Prop
 |bool (b:Bool):RV ρ (.bool b) (.bool b)
 |int (k:IntKind) (n:Int):RV ρ (.int k n) (.int k n)
 |string (s:ByteArray):RV ρ (.string s) (.string s)
 |pointer {a a':Option Addr} (h:RAo ρ a a'):RV ρ (.pointer a) (.pointer a')
 |slice {a a':Option Addr} (n c:Nat) (h:RAo ρ a a'):RV ρ (.slice a n c) (.slice a' n c)
 |map {r r':Option Nat} (h:RNo ρ r r'):RV ρ (.map r) (.map r')
 |chan {r r':Option Nat} (h:RNo ρ r r'):RV ρ (.chan r) (.chan r')
 |func {f f':Fn} {a a' c c':Array Value} (hf:RFn ρ f f') (ha:a.size=a'.size) (hc:c.size=c'.size) (h1:∀ (i:Nat) v v',a[i]?=some v->a'[i]?=some v'->RV ρ v v') (h2:∀ (i:Nat) v v',c[i]?=some v->c'[i]?=some v'->RV ρ v v'):RV ρ (.func f a c) (.func f' a' c')
 |nilFunc:RV ρ .nilFunc .nilFunc
 |iface (t:TypeId) {v v':Value} (h:RV ρ v v'):RV ρ (.iface t v) (.iface t v')
 |nilIface:RV ρ .nilIface .nilIface
 |agg {c c':Array Value} (hc:c.size=c'.size) (h:∀ (i:Nat) v v',c[i]?=some v->c'[i]?=some v'->RV ρ v v'):RV ρ (.agg c) (.agg c')
 |tuple {c c':Array Value} (hc:c.size=c'.size) (h:∀ (i:Nat) v v',c[i]?=some v->c'[i]?=some v'->RV ρ v v'):RV ρ (.tuple c) (.tuple c')
 |dead (v':Value) (h:gv v'=true):RV ρ (.tuple #[]) v'
 | odd (n : Nat) (s : String) (a c : Array Value) (hn : n = ρ.bad) : RV ρ (.func (.method "") #[.iface n (.func (.method s) a c)] #[]) (.func (.method s) a c)
structure RVs (ρ:Ren)(c c':Array Value):Prop where
 size:c.size=c'.size
 at_:∀ (i:Nat) v v',c[i]?=some v->c'[i]?=some v'->RV ρ v v'
inductive RT (ρ:Ren):Target->Target->Prop
 |fn {f f':Fn} {c c':Array Value} (hf:RFn ρ f f') (hc:RVs ρ c c'):RT ρ (.fn f c) (.fn f' c')
 |nil:RT ρ .nil .nil
 |builtin (b:Builtin) (hb:zI ρ.F b=true) (a:Array TypeId) (ha:BY ρ.prog b a=true) (t:TypeId) (cs:Array Bool):RT ρ (.builtin b a t cs) (.builtin b a t cs)
 |collected {r r':Nat} (h:ρ r r'):RT ρ (.collected r) (.collected r')
inductive RD (ρ:Ren):Deferred->Deferred->Prop
 |mk {d d':Deferred} (target:RT ρ d.target d'.target) (args:RVs ρ d.args d'.args):RD ρ d d'
 | odd (n : Nat) (v : Value) (a : Array Value) (s : String) (c a' : Array Value) (hn : n = ρ.bad) : RD ρ ⟨.fn (.method "") #[], #[.iface n v] ++ a⟩ ⟨.fn (.method s) c, a'⟩
inductive RDs (ρ:Ren):List Deferred->List Deferred->Prop
 |nil:RDs ρ [] []
 |cons {d d':Deferred} {l l':List Deferred} (h:RD ρ d d') (hl:RDs ρ l l') (hS:(∃r,d.target=.collected r)\/(ρ.F ft||ρ.F j8)=true):RDs ρ (d::l) (d'::l')
structure RL (ρ:Ren)(l l':Loop):Prop where
 state:l.state=l'.state
 pending:l.pending=l'.pending
 fn:l.fn=l'.fn
 tmps:RVs ρ l.tmps l'.tmps
 params:l.params=l'.params
 assign:l.assign=l'.assign
 body:l.body=l'.body
 defers:ρ l.defers l'.defers
 okA:aA ρ.prog ρ.F l.assign=true
 okBo:aA ρ.prog ρ.F l.body=true
 okP:∀c,l.pending=some c->aA ρ.prog ρ.F c=true
def Zr (f:Bool)(n:Nat)(z z':Nat×Nat):Prop:=z=z'\/(f=false/\z.1=0/\0<z.2/\n<=z.2/\z'.2<=z.2)
inductive RMs (ρ:Ren):List MapEntry->List MapEntry->Prop
 |nil:RMs ρ [] []
 |cons (b:Nat) {k k' v v':Value} {l l':List MapEntry} (hk:RV ρ k k') (h:RV ρ v v') (hl:RMs ρ l l'):RMs ρ (⟨k,v,b⟩::l) (⟨k',v',b⟩::l')
inductive RO (ρ:Ren):Obj->Obj->Prop
 |cells {c c':Array Value} (e:TypeId) {z z':Nat×Nat} (hz:Zr (ρ.F j7) c.size z z') (h:RVs ρ c c'):RO ρ (.cells c e z) (.cells c' e z')
 |chan (cap cap':Nat) {b b':Array Value} (cl cl':Bool) (s r s' r':Nat) (tm:Bool) (hb:ρ.loose=true\/RVs ρ b b') (hc:ρ.wide=true\/cl=cl'):RO ρ (.chan cap b cl s r tm) (.chan cap' b' cl' s' r' tm)
 |map {es es':Array MapEntry} (c:Nat) (h:RMs ρ es.toList es'.toList):RO ρ (.map es c) (.map es' c)
 |stringIter (s:ByteArray) (n:Nat):RO ρ (.stringIter s n) (.stringIter s n)
 |loop {l l':Loop} (h:RL ρ l l'):RO ρ (.loop l) (.loop l')
 |deferred {l l':List Deferred} (h:RDs ρ l l'):RO ρ (.deferred (some l)) (.deferred (some l'))
 |taken:RO ρ (.deferred none) (.deferred none)
 |number {a a':Addr} (lost:Bool) (h:RA ρ a a'):RO ρ (.number a lost) (.number a' lost)
 |dead (o':Obj) (h:ot o'=true):RO ρ (.coro none) o'
section
variable {ρ ρ':Ren} (hle:ρ.le ρ')
include hle
theorem RA.mono {a a':Addr}(h:RA ρ a a'):RA ρ' a a':=⟨hle _ _ h.1,h.2⟩
theorem RAo.mono {a a':Option Addr}(h:RAo ρ a a'):RAo ρ' a a':=by
 cases h with
 |none=>exact .none
 |some h=>exact .some (RA.mono hle h)
theorem RNo.mono {a a':Option Nat}(h:RNo ρ a a'):RNo ρ' a a':=by
 cases h with
 |none=>exact .none
 |some h=>exact .some (hle _ _ h)
theorem RFn.mono {a a':Fn}(h:RFn ρ a a'):RFn ρ' a a':=by
 cases h with
 |func f h=>exact .func f (by rw [hle.F];exact h)
 |yield h=>exact .yield (hle _ _ h)
theorem RV.mono {v v':Value}(h:RV ρ v v'):RV ρ' v v':=by
 induction h with
 |bool b=>exact .bool b
 |int k n=>exact .int k n
 |string s=>exact .string s
 |pointer h=>exact .pointer (RAo.mono hle h)
 |slice n c h=>exact .slice n c (RAo.mono hle h)
 |map h=>exact .map (RNo.mono hle h)
 |chan h=>exact .chan (RNo.mono hle h)
 |func hf ha hc _ _ i1 i2=>exact .func (RFn.mono hle hf) ha hc i1 i2
 |nilFunc=>exact .nilFunc
 |iface t _ ih=>exact .iface t ih
 |nilIface=>exact .nilIface
 |agg hc _ ih=>exact .agg hc ih
 |tuple hc _ ih=>exact .tuple hc ih
 |dead v' h=>exact .dead v' h
 |odd n s a c hn=>exact .odd n s a c (hn.trans hle.bad.symm)
theorem RVs.mono {c c':Array Value}(h:RVs ρ c c'):RVs ρ' c c':=⟨h.size,fun i v v' h1 h2=>RV.mono hle (h.at_ i v v' h1 h2)⟩
theorem RT.mono {a a':Target}(h:RT ρ a a'):RT ρ' a a':=by
 cases h with
 |fn hf hc=>exact .fn (RFn.mono hle hf) (RVs.mono hle hc)
 |nil=>exact .nil
 |builtin b hb a ha t cs=>exact .builtin b (by rw [hle.F];exact hb) a (by rw [hle.prog];exact ha) t cs
 |collected h=>exact .collected (hle _ _ h)
theorem RD.mono {a a':Deferred}(h:RD ρ a a'):RD ρ' a a':=by
 cases h with
 |mk h1 h2=>exact .mk (RT.mono hle h1) (RVs.mono hle h2)
 |odd n v a s c a' hn=>exact .odd n v a s c a' (hn.trans hle.bad.symm)
theorem RDs.mono {a a':List Deferred}(h:RDs ρ a a'):RDs ρ' a a':=by
 induction h with
 |nil=>exact .nil
 |cons h _ hS ih=>exact .cons (RD.mono hle h) ih (by rw [hle.F];exact hS)
theorem RL.mono {a a':Loop}(h:RL ρ a a'):RL ρ' a a':=⟨h.state,h.pending,h.fn,RVs.mono hle h.tmps,h.params,h.assign,h.body,hle _ _ h.defers,by rw [hle.prog,hle.F];exact h.okA,by rw [hle.prog,hle.F];exact h.okBo,by rw [hle.prog,hle.F];exact h.okP⟩
theorem RMs.mono {a a':List MapEntry}(h:RMs ρ a a'):RMs ρ' a a':=by
 induction h with
 |nil=>exact .nil
 |cons b hk h _ ih=>exact .cons b (RV.mono hle hk) (RV.mono hle h) ih
theorem RO.mono {a a':Obj}(h:RO ρ a a'):RO ρ' a a':=by
 cases h with
 |cells e hz h=>exact .cells e (by rw [hle.F];exact hz) (RVs.mono hle h)
 |chan cap cap' cl cl' s r s' r' tm hb hc=>exact .chan cap cap' cl cl' s r s' r' tm (hb.imp (fun h=>hle.loose.trans h) (RVs.mono hle)) (hc.imp (fun h=>hle.wide.trans h) id)
 |map c h=>exact .map c (RMs.mono hle h)
 |stringIter s n=>exact .stringIter s n
 |loop h=>exact .loop (RL.mono hle h)
 |deferred h=>exact .deferred (RDs.mono hle h)
 |taken=>exact .taken
 |number b h=>exact .number b (RA.mono hle h)
 |dead _ h=>exact .dead _ h
end
def Fixed:Obj->Prop
 | .cells c _ z=>z.1=0/\c.size<=z.2
 | .coro none=>True
 | .number _ _=>True
 |_=>False
inductive Dw:Obj->Prop
 |coro:Dw (.coro none)
 |number (a:Addr) (l:Bool):Dw (.number a l)
def rN (w w':World)(c0:Array Value)(a b:Nat):Prop:=∃c e z c' z',w.heap[a]?=some (.cells c e z)/\w'.heap[b]?=some (.cells c' e z')/\∀ (i:Nat) x,c[i]?=some x->gz x=false->c'[i]?=c0[i]?
theorem rN.same {w w' u u':World}{c0:Array Value}{a b:Nat}(h:rN w w' c0 a b)(h1:u.heap[a]?=w.heap[a]?)(h2:u'.heap[b]?=w'.heap[b]?):rN u u' c0 a b:=by
 unfold rN;rw [h1,h2];exact h
structure br (ρ:Ren)(w w':World):Prop where
 obj:∀a b,ρ a b->∃o o',w.heap[a]?=some o/\w'.heap[b]?=some o'/\RO ρ o o'
 fix:∀a,ρ.old a->∃o,w.heap[a]?=some o/\Fixed o
 chan:∀c,ρ.ch c->∃o,w.heap[c]?=some o/\o.isChan=true
 os:w'.os=w.os
 pin:ρ.F j7=true->∀a c0,ρ.pin a=some c0->∃b,ρ a b/\rN w w' c0 a b
def ext (ρ:Ren)(r r':Nat)(h:∀b,¬ρ r b)(h':∀a,¬ρ a r'):Ren where
 rel:=fun a b=>ρ a b\/(a=r/\b=r')
 fn:=fun a b b' h1 h2=>by
  rcases h1 with h1|⟨rfl,rfl⟩<;>rcases h2 with h2|⟨h2,h3⟩
  ·exact ρ.fn _ _ _ h1 h2
  ·subst h2;exact absurd h1 (h _)
  ·exact absurd h2 (h _)
  ·exact h3.symm
 inj:=fun a a' b h1 h2=>by
  rcases h1 with h1|⟨rfl,rfl⟩<;>rcases h2 with h2|⟨h2,h3⟩
  ·exact ρ.inj _ _ _ h1 h2
  ·subst h3;exact absurd h1 (h' _)
  ·exact absurd h2 (h' _)
  ·exact h2.symm
 prog:=ρ.prog
 F:=ρ.F
 old:=ρ.old
 ch:=ρ.ch
 loose:=ρ.loose
 wide:=ρ.wide
 tight:=ρ.tight
 pin:=ρ.pin
 bad:=ρ.bad
 noM:=ρ.noM
theorem pG (ρ:Ren)(r r':Nat)(h:∀b,¬ρ r b)(h':∀a,¬ρ a r'):ρ.le (ext ρ r r' h h'):=⟨fun _ _ k=>.inl k,rfl,rfl,rfl,rfl,rfl,rfl,rfl,rfl⟩
def dS:Halt->Bool
 | .stuck _=>true
 | .unsupported (.initOrder _)=>false
 | .unsupported _=>true
 | .throw _=>true
 |_=>false
inductive RH (ρ:Ren):Halt->Halt->Prop
 |panic {v v':Value} (h:RV ρ v v'):RH ρ (.panic v) (.panic v')
inductive RMk:Mark->Prop
 |extern (f:FuncId):RMk (.extern f)
 |noRoom:RMk .noRoom
class Two (P:Program) where
 fs:Array Func
def _root_.Go.Program.alt (P:Program) [Two P]:Program:=⟨P.toTables,Two.fs P⟩
inductive cH (P:Program) [Two P]{α:Type}:Sem α->Prop
 |halt {h:Halt} (hn:dS h=true):cH P (.halt h)
 |mark (m:Mark) {k:Sem α} (hk:cH P k):cH P (.mark m k)
 |shape (r:Nat) {k:Option (TypeId×Nat)->Sem α} (hk:∀s,cH P (k s)):cH P (.shape r k)
 |frozen (a:Addr) {k:Bool->Sem α} (hk:∀s,cH P (k s)):cH P (.frozen a k)
 |program {k:Program->Sem α} (hk:∀p:Program,p.toTables=P.toTables->cH P (k p)):cH P (.program k)
inductive Calm {α:Type}:Sem α->Prop
 |pure (a:α):Calm (.pure a)
 |shape (r:Nat) {k:Option (TypeId×Nat)->Sem α} (hk:∀s,Calm (k s)):Calm (.shape r k)
 |frozen (a:Addr) {k:Bool->Sem α} (hk:∀s,Calm (k s)):Calm (.frozen a k)
theorem cH.bind {P:Program} [Two P]{α β:Type}{s:Sem α}(h:cH P s)(f:α->Sem β):cH P (s.bind f):=by
 induction h with
 |halt hn=>exact .halt hn
 |mark m _ ih=>exact .mark m ih
 |shape r _ ih=>exact .shape r ih
 |frozen a _ ih=>exact .frozen a ih
 |program _ ih=>exact .program ih
theorem Calm.bind {α β:Type}{s:Sem α}(h:Calm s){f:α->Sem β}(hf:∀a,Calm (f a)):Calm (s.bind f):=by
 induction h with
 |pure a=>exact hf a
 |shape r _ ih=>exact .shape r ih
 |frozen a _ ih=>exact .frozen a ih
theorem Calm.lost {P:Program} [Two P]{α β:Type}{s:Sem α}(h:Calm s){f:α->Sem β}(hf:∀a,cH P (f a)):cH P (s.bind f):=by
 induction h with
 |pure a=>exact hf a
 |shape r _ ih=>exact .shape r ih
 |frozen a _ ih=>exact .frozen a ih
inductive RS (P:Program) [Two P]{α β:Type}(Q:Ren->α->β->Prop):Ren->Sem α->Sem β->Prop
 |pure {ρ:Ren} {a:α} {b:β} (h:Q ρ a b):RS P Q ρ (.pure a) (.pure b)
 |load {ρ:Ren} (m:Mode) {a a':Addr} {k:Value->Sem α} {k':Value->Sem β} (h:RA ρ a a') (hk:∀v v',RV ρ v v'->RS P Q ρ (k v) (k' v')):RS P Q ρ (.load m a k) (.load m a' k')
 |store {ρ:Ren} (m:Mode) {a a':Addr} {v v':Value} {k:Sem α} {k':Sem β} (h:RA ρ a a') (hv:RV ρ v v') (hk:RS P Q ρ k k'):RS P Q ρ (.store m a v k) (.store m a' v' k')
 |new {ρ:Ren} {o o':Obj} {k:Nat->Sem α} {k':Nat->Sem β} (h:RO ρ o o') (hk:∀r r' hr hr',¬ρ.old r->RS P Q (ext ρ r r' hr hr') (k r) (k' r')) (hs:o.isChan=true->ρ.F j8=true:=by exact fun h=>nomatch h):RS P Q ρ (.new o k) (.new o' k')
 |shape {ρ:Ren} {r r':Nat} {k:Option (TypeId×Nat)->Sem α} {k':Option (TypeId×Nat)->Sem β} (h:ρ r r') (hk:∀s,RS P Q ρ (k s) (k' s)):RS P Q ρ (.shape r k) (.shape r' k')
 |frozen {ρ:Ren} {a a':Addr} {k:Bool->Sem α} {k':Bool->Sem β} (h:RA ρ a a') (hk:∀s,RS P Q ρ (k s) (k' s)) (hk':ρ.F j7=false->∀s,RS P Q ρ (k true) (k' s)):RS P Q ρ (.frozen a k) (.frozen a' k')
 |freeze {ρ:Ren} {a a':Addr} (n:Nat) {k:Sem α} {k':Sem β} (h:RA ρ a a') (ho:¬ρ.old a.block) (hk:RS P Q ρ k k'):RS P Q ρ (.freeze a n k) (.freeze a' n k')
 |getObj {ρ:Ren} {r r':Nat} {k:Obj->Sem α} {k':Obj->Sem β} (h:ρ r r') (hk:∀o o',RO ρ o o'->(ρ.old r->Dw o)->(ρ.ch r->o.isChan=true)->RS P Q ρ (k o) (k' o')):RS P Q ρ (.getObj r k) (.getObj r' k')
 |setObj {ρ:Ren} {r r':Nat} {o o':Obj} {k:Sem α} {k':Sem β} (h:ρ r r') (ho:RO ρ o o') (hn:¬ρ.old r) (hch:ρ.ch r->ρ.F ft=true/\∃n b s q tm,o=.chan n b true s q tm) (hk:RS P Q ρ k k') (hs:o.isChan=true->ρ.F ft=true/\∃n b s q tm,o=.chan n b true s q tm:=by exact fun h=>nomatch h):RS P Q ρ (.setObj r o k) (.setObj r' o' k')
 |choose {ρ:Ren} (q:Question) {k:Nat->Sem α} {k':Nat->Sem β} (hk:∀n,RS P Q ρ (k n) (k' n)):RS P Q ρ (.choose q k) (.choose q k')
 |program {ρ:Ren} {k:Program->Sem α} {k':Program->Sem β} (h1:k P.alt=k P) (hk:RS P Q ρ (k P) (k' P)):RS P Q ρ (.program k) (.program k')
 |mark {ρ:Ren} {m:Mark} {k:Sem α} {k':Sem β} (h:RMk m) (hk:RS P Q ρ k k'):RS P Q ρ (.mark m k) (.mark m k')
 |halt {ρ:Ren} {h h':Halt} (hh:RH ρ h h'):RS P Q ρ (.halt h) (.halt h')
 |env {ρ:Ren} {k:SysRet->Sem α} {k':SysRet->Sem β} (hk:∀r,RS P Q ρ (k r) (k' r)):RS P Q ρ (.sys .env k) (.sys .env k')
 |lost {ρ:Ren} {s:Sem α} (h:cH P s) (s':Sem β):RS P Q ρ s s'
theorem RS.bind {P:Program} [Two P]{α β γ δ:Type}{Q:Ren->α->β->Prop}{Q':Ren->γ->δ->Prop}{ρ:Ren}{x:Sem α}{x':Sem β}{f:α->Sem γ}{f':β->Sem δ}(h:RS P Q ρ x x'):
  (∀ρ',ρ.le ρ'->∀a b,Q ρ' a b->RS P Q' ρ' (f a) (f' b))->RS P Q' ρ (x.bind f) (x'.bind f'):=by
 induction h with
 |pure h=>intro hf;exact hf _ (Ren.le_refl _) _ _ h
 |load m h _ ih=>intro hf;exact .load m h (fun v v' hv=>ih v v' hv hf)
 |store m h hv _ ih=>intro hf;exact .store m h hv (ih hf)
 |new h _ hs ih=>intro hf;exact .new h (fun r r' hr hr' hn=>ih r r' hr hr' hn (fun ρ' hl=>hf ρ' (Ren.le_trans (pG _ r r' hr hr') hl))) hs
 |shape h _ ih=>intro hf;exact .shape h (fun s=>ih s hf)
 |frozen h _ _ ih ih'=>intro hf;exact .frozen h (fun s=>ih s hf) (fun e s=>ih' e s hf)
 |freeze n h ho _ ih=>intro hf;exact .freeze n h ho (ih hf)
 |getObj h _ ih=>intro hf;exact .getObj h (fun o o' ho h1 h2=>ih o o' ho h1 h2 hf)
 |setObj h ho hn hch _ hs ih=>intro hf;exact .setObj h ho hn hch (ih hf) hs
 |choose q _ ih=>intro hf;exact .choose q (fun n=>ih n hf)
 |program h1 _ ih=>intro hf;exact .program (by show Sem.bind _ _=Sem.bind _ _;rw [h1]) (ih hf)
 |mark h _ ih=>intro hf;exact .mark h (ih hf)
 |halt hh=>intro _;exact .halt hh
 |env _ ih=>intro hf;exact .env (fun r=>ih r hf)
 |lost h s'=>intro _;exact .lost (h.bind _) _
theorem RS.imp {P:Program} [Two P]{α β:Type}{Q Q':Ren->α->β->Prop}{ρ:Ren}{x:Sem α}{x':Sem β}(h:RS P Q ρ x x')(hq:∀ρ a b,Q ρ a b->Q' ρ a b):RS P Q' ρ x x':=by
 induction h with
 |pure h=>exact .pure (hq _ _ _ h)
 |load m h _ ih=>exact .load m h ih
 |store m h hv _ ih=>exact .store m h hv ih
 |new h _ hs ih=>exact .new h ih hs
 |shape h _ ih=>exact .shape h ih
 |frozen h _ _ ih ih'=>exact .frozen h ih ih'
 |freeze n h ho _ ih=>exact .freeze n h ho ih
 |getObj h _ ih=>exact .getObj h ih
 |setObj h ho hn hch _ hs ih=>exact .setObj h ho hn hch ih hs
 |choose q _ ih=>exact .choose q ih
 |program h1 _ ih=>exact .program h1 ih
 |mark h _ ih=>exact .mark h ih
 |halt hh=>exact .halt hh
 |env _ ih=>exact .env ih
 |lost h s'=>exact .lost h _
inductive RR {α β:Type}(Q:Ren->α->β->Prop)(ρ:Ren):Result α->Result β->Prop
 |ok {a:α} {b:β} (w w':World) (h:Q ρ a b):RR Q ρ (.ok a w) (.ok b w')
 |halt {a b:Halt} (w w':World) (h:RH ρ a b):RR Q ρ (.halt a w) (.halt b w')
structure Keep (ρ:Ren)(w w':World):Prop where
 os:w'.os=w.os
 output:w'.output=w.output
 tape:w'.tape=w.tape
 size:w.heap.size<=w'.heap.size
 block:∀b,b<w.heap.size->(∀a,ρ a b->ρ.old a)->w'.heap[b]?=w.heap[b]?
def wX (w:World)(c:Nat):Prop:=∃n b s q tm,w.heap[c]?=some (.chan n b true s q tm)
structure Chs (ρ:Ren)(w w' u u':World):Prop where
 row:∀c b,ρ.ch c->ρ c b->(u.heap[c]?=w.heap[c]?/\u'.heap[b]?=w'.heap[b]?)\/(ρ.F ft=true/\wX u c)
 only:ρ.F j8=false->∀ (a:Nat) o,u.heap[a]?=some o->o.isChan=true->w.heap[a]?=some o\/(ρ.F ft=true/\wX u a)
theorem Chs.refl (ρ:Ren)(w w':World):Chs ρ w w' w w':=⟨fun _ _ _ _=>.inl ⟨rfl,rfl⟩,fun _ _ _ h _=>.inl h⟩
theorem Chs.trans {ρ ρ1:Ren}{w w' u u' v v':World}(l:ρ.le ρ1)(h:Chs ρ w w' u u')(k:Chs ρ1 u u' v v'):Chs ρ w w' v v':=⟨fun c b hc hb=>by
 rcases k.row c b (by rw [l.ch];exact hc) (l _ _ hb) with ⟨k1,k2⟩|⟨k1,k2⟩
 ·rcases h.row c b hc hb with ⟨h1,h2⟩|⟨h1,h2⟩
  ·exact .inl ⟨k1.trans h1,k2.trans h2⟩
  ·refine .inr ⟨h1,?_⟩;unfold wX;rw [k1];exact h2
 ·exact .inr ⟨by rw [<-l.F];exact k1,k2⟩,fun hS a o ho hc=>by
 rcases k.only (by rw [l.F];exact hS) a o ho hc with k1|⟨k1,k2⟩
 ·rcases h.only hS a o k1 hc with h1|⟨h1,h2⟩
  ·exact .inl h1
  ·obtain ⟨n,b,s,q,tm,h2⟩:=h2;rw [k1] at h2;cases h2;exact .inr ⟨h1,_,_,_,_,_,ho⟩
 ·exact .inr ⟨by rw [<-l.F];exact k1,k2⟩⟩
theorem Keep.refl (ρ:Ren)(w:World):Keep ρ w w:=⟨rfl,rfl,rfl,lR _,fun _ _ _=>rfl⟩
theorem Keep.trans {ρ ρ1:Ren}{w w1 w2:World}(h:Keep ρ w w1)(h':Keep ρ1 w1 w2)(ho:ρ1.old=ρ.old)(hn:∀a b,ρ1 a b->ρ a b\/w.heap.size<=b):Keep ρ w w2:=
 ⟨h'.os.trans h.os,h'.output.trans h.output,h'.tape.trans h.tape,lT h.size h'.size,fun b hb hno=>(h'.block b (lL hb h.size) (fun a ha=>by
  rw [ho];rcases hn a b ha with k|k
  ·exact hno a k
  ·omega)).trans (h.block b hb hno)⟩
def ie (ρ:Ren)(e:Event):Prop:=
 match e.loc with
 | .cell a=>∃x,ρ x a.block/\(e.write=true->¬ρ.old x)/\¬ρ.ch x
 | .obj r=>∃x,ρ x r/\(e.write=true->¬ρ.old x)/\(e.sync=false->¬ρ.ch x)
 | .mark m=>RMk m
 | .output=>True
 |_=>False
theorem ie.mono {ρ ρ':Ren}(l:ρ.le ρ'){e:Event}(h:ie ρ e):ie ρ' e:=by
 obtain ⟨loc,wr,sy⟩:=e;cases loc with
 |cell a=>obtain ⟨x,h1,h2,h3⟩:=h;exact ⟨x,l _ _ h1,by rw [l.old];exact h2,by rw [l.ch];exact h3⟩
 |obj r=>obtain ⟨x,h1,h2,h3⟩:=h;exact ⟨x,l _ _ h1,by rw [l.old];exact h2,by rw [l.ch];exact h3⟩
 |mark m=>exact h
 |output=>exact h
 |goroutines=>exact h
def d7 (ρ:Ren)(es es1:Array Event):Prop:=∃E,es1=es++E/\∀e∈E,ie ρ e
theorem d7.refl (ρ:Ren)(es:Array Event):d7 ρ es es:=⟨#[],by simp,fun e h=>by simp at h⟩
theorem d7.push {ρ:Ren}{es:Array Event}{e:Event}(h:ie ρ e):d7 ρ es (es.push e):=⟨#[e],by simp,fun x hx=>by simp at hx;exact hx▸h⟩
theorem d7.mono {ρ ρ':Ren}(l:ρ.le ρ'){es es1:Array Event}(h:d7 ρ es es1):d7 ρ' es es1:=by
 obtain ⟨E,h1,h2⟩:=h;exact ⟨E,h1,fun e he=>(h2 e he).mono l⟩
theorem d7.trans {ρ:Ren}{es es1 es2:Array Event}(h:d7 ρ es es1)(h':d7 ρ es1 es2):d7 ρ es es2:=by
 obtain ⟨E,rfl,h2⟩:=h;obtain ⟨E',rfl,h2'⟩:=h';exact ⟨E++E',by simp,fun e he=>by
  rcases Array.mem_append.1 he with h|h
  ·exact h2 e h
  ·exact h2' e h⟩
theorem RVs.get {ρ:Ren}{c c':Array Value}(h:RVs ρ c c')(i:Nat):(c[i]?=none/\c'[i]?=none)\/∃v v',c[i]?=some v/\c'[i]?=some v'/\RV ρ v v':=by
 by_cases hi:i<c.size
 ·have hi':i<c'.size:=by rw [<-h.size];exact hi
  exact .inr ⟨c[i],c'[i],eG hi,eG hi',h.at_ i _ _ (eG hi) (eG hi')⟩
 ·exact .inl ⟨Array.getElem?_eq_none (by omega),Array.getElem?_eq_none (by rw [<-h.size];omega)⟩
theorem br.cell {ρ:Ren}{w w':World}(S:br ρ w w'){a a':Addr}(h:RA ρ a a'):w.cell? a=none\/∃v v',w.cell? a=some v/\w'.cell? a'=some v'/\RV ρ v v':=by
 obtain ⟨o,o',h1,h2,ho⟩:=S.obj _ _ h.1;unfold World.cell?;rw [h1,h2];cases ho with
 |cells e hz hc=>
  simp only [<-h.2.1,<-h.2.2];split
  ·exact .inl rfl
  ·rcases hc.get a.off with ⟨k,-⟩|k
   ·exact .inl k
   ·exact .inr k
 |_=>exact .inl rfl
theorem br.frozenEq {ρ:Ren}{w w':World}(S:br ρ w w'){a a':Addr}(h:RA ρ a a'):w'.frozen? a'=w.frozen? a\/(w.frozen? a=true/\ρ.F j7=false):=by
 obtain ⟨o,o',h1,h2,ho⟩:=S.obj _ _ h.1;unfold World.frozen?;rw [h1,h2];cases ho with
 | @cells c c' e z z' hz hc=>
  obtain ⟨lo,hi⟩:=z;obtain ⟨lo',hi'⟩:=z';simp only [<-h.2.1];rcases hz with hz|⟨z0,z1,z2,z3,z4⟩
  ·cases hz;exact .inl rfl
  ·simp only at z1 z2 z3 z4;subst z1;by_cases k:a.off<hi
   ·exact .inr ⟨by simp [k],z0⟩
   ·exact .inl (by
     have:¬a.off<hi':=by omega
     simp [k,this])
 |dead o' h=>cases o'<;>first|exact .inl rfl|simp [ot] at h
 |_=>exact .inl rfl
theorem br.shapeEq {ρ:Ren}{w w':World}(S:br ρ w w'){r r':Nat}(h:ρ r r'):w'.shape? r'=w.shape? r:=by
 obtain ⟨o,o',h1,h2,ho⟩:=S.obj _ _ h;unfold World.shape?;rw [h1,h2];cases ho with
 |cells e z hc=>simp only [hc.size]
 |dead o' h=>cases o'<;>first|rfl|simp [ot] at h
 |_=>rfl
theorem br.farLoad {ρ:Ren}{w w':World}(S:br ρ w w'){a a':Addr}(h:RA ρ a a')(b:Bool):∃e,(∀ (P:Program) τ d,(w.on τ d).farLoad P a b=.error e)/\dS e=true:=by
 obtain ⟨o,o',h1,h2,ho⟩:=S.obj _ _ h.1;have hh:∀τ d,(w.on τ d).heap[a.block]?=some o:=fun _ _=>h1
 cases ho <;> exact ⟨.stuck "load: no such cell", fun P τ d => by unfold World.farLoad World.noCell; rw [hh], rfl⟩
theorem br.farStore {ρ:Ren}{w w':World}(S:br ρ w w'){a a':Addr}(h:RA ρ a a')(v:Value)(b:Bool):∃e,(∀ (P:Program) τ d,(w.on τ d).farStore P a v b=.error e)/\dS e=true:=by
 obtain ⟨o,o',h1,h2,ho⟩:=S.obj _ _ h.1;have hh:∀τ d,(w.on τ d).heap[a.block]?=some o:=fun _ _=>h1
 cases ho <;> exact ⟨.stuck "store: no such cell", fun P τ d => by unfold World.farStore World.noCell; rw [hh], rfl⟩
section
variable {α:Type} {p:Program} {w:World} {es:Array Event}
theorem zJ (a:α):Mir p (.pure a) w es:=gy p _ w es (.ok a) (fun _=>rfl) (fun _ _ _ _=>rfl) (fun _ _=>rfl)
theorem tH (h:Halt):Mir p (.halt h:Sem α) w es:=gy p _ w es (.halt h) (fun _=>rfl) (fun _ _ _ _=>rfl) (fun _ _=>rfl)
theorem zK {m:Mode}{a:Addr}{k:Value->Sem α}{v:Value}(hc:w.cell? a=some v)(h:Mir p (k v) w (es.push ⟨.cell a,false,m == .atomic⟩)):Mir p (.load m a k) w es:=
 gl p _ (k v) w w es (es.push ⟨.cell a,false,m == .atomic⟩) (by simp only [Sem.runT,hc]) rfl rfl (fun τ d=>by have:(w.on τ d).cell? a=some v:=hc;simp only [Sem.runT,this]) h
theorem rO {m:Mode}{a:Addr}{k:Value->Sem α}{e:Halt}(hc:w.cell? a=none)(h:∀τ d,(w.on τ d).farLoad p a (m == .atomic)=.error e):Mir p (.load m a k) w es:=
 gy p _ w es (.halt e) (fun _=>rfl) (fun _ _ _ _=>rfl) (fun τ d=>by
  have h1:(w.on τ d).cell? a=none:=hc;simp only [Sem.runT,h1,h])
theorem fu (p : Program) (m : Mode) (a : Addr) (v : Value) (k : Sem α) (hv : gz v = true) (u : World) (es : Array Event) : (Sem.store m a v k).runT p u es = match u.cell? a with
      | some _ => if u.frozen? a then (.halt (.unsupported (.unsafePointer "a write to bytes that a string shares")) u, es) else k.runT p (u.setCell a v) (es.push ⟨.cell a, true, m == .atomic⟩)
      |none=>match u.farStore p a v (m == .atomic) with
        | .ok (u,touched)=>k.runT p u (es++touched.toArray.map (⟨.cell ·,true,m == .atomic⟩))
        | .error h=>(.halt h u,es):=by cases v<;>first|rfl|simp [gz] at hv
theorem wY {m:Mode}{a:Addr}{v x:Value}{k:Sem α}(hv:gz v=true)(hc:w.cell? a=some x)(hz:w.frozen? a=false)(h:Mir p k (w.setCell a v) (es.push ⟨.cell a,true,m == .atomic⟩)):Mir p (.store m a v k) w es:=
 gl p _ k w (w.setCell a v) es (es.push ⟨.cell a,true,m == .atomic⟩) (by rw [fu p m a v k hv,hc];simp only [hz];rfl) rfl rfl (fun τ d=>by
  have h1:(w.on τ d).cell? a=some x:=hc;have h2:(w.on τ d).frozen? a=w.frozen? a:=rfl;rw [fu p m a v k hv,h1];simp only [h2,hz];rfl) h
theorem lF {m:Mode}{a:Addr}{v x:Value}{k:Sem α}(hv:gz v=true)(hc:w.cell? a=some x)(hz:w.frozen? a=true):Mir p (.store m a v k) w es:=
 gy p _ w es (.halt (.unsupported (.unsafePointer "a write to bytes that a string shares"))) (fun _ => rfl) (fun _ _ _ _ => rfl) (fun τ d => by
  have h1:(w.on τ d).cell? a=some x:=hc;have h2:(w.on τ d).frozen? a=true:=hz;rw [fu p m a v k hv,h1];simp only [h2,if_true])
theorem pH {m:Mode}{a:Addr}{v:Value}{k:Sem α}{e:Halt}(hv:gz v=true)(hc:w.cell? a=none)(h:∀τ d,(w.on τ d).farStore p a v (m == .atomic)=.error e):Mir p (.store m a v k) w es:=
 gy p _ w es (.halt e) (fun _=>rfl) (fun _ _ _ _=>rfl) (fun τ d=>by
  have h1:(w.on τ d).cell? a=none:=hc;rw [fu p m a v k hv,h1];simp only [h])
theorem rP {m:Mode}{a:Addr}{v:Value}{k:Sem α}(hv:¬gz v=true):Mir p (.store m a v k) w es:=
 gy p _ w es (.halt (.stuck "store: not the value of one cell")) (fun _ => rfl) (fun _ _ _ _ => rfl) (fun τ d => by
  cases v<;>first|rfl|simp [gz] at hv)
theorem B3 {o:Obj}{k:Nat->Sem α}(h:Mir p (k w.heap.size) {w with heap:=w.heap.push o} es):Mir p (.new o k) w es:=gl p _ (k w.heap.size) w {w with heap:=w.heap.push o} es es rfl rfl rfl (fun _ _=>rfl) h
theorem pI {r:Nat}{k:Option (TypeId×Nat)->Sem α}(h:Mir p (k (w.shape? r)) w es):Mir p (.shape r k) w es:=gl p _ (k (w.shape? r)) w w es es rfl rfl rfl (fun _ _=>rfl) h
theorem uM {a:Addr}{n:Nat}{k:Sem α}(h:Mir p k (w.freeze a n) es):Mir p (.freeze a n k) w es:=
 gl p (.freeze a n k) k w (w.freeze a n) es es rfl (bW w a n).1 (bW w a n).2 (fun τ d=>by
  show k.runT p ((w.on τ d).freeze a n) es=k.runT p ((w.freeze a n).on τ d) es;rw [wV]) h
theorem jy {a:Addr}{k:Bool->Sem α}(h:Mir p (k (w.frozen? a)) w es):Mir p (.frozen a k) w es:=gl p _ (k (w.frozen? a)) w w es es rfl rfl rfl (fun _ _=>rfl) h
theorem uN {r:Nat}{k:Obj->Sem α}{o:Obj}(ho:w.heap[r]?=some o)(hcl:¬∃c e z,o=.cells c e z)(h:Mir p (k o) w (es.push ⟨.obj r,false,o.isChan⟩)):Mir p (.getObj r k) w es:=by
 have e:∀u:World,u.heap[r]?=some o->(Sem.getObj r k).runT p u es=(k o).runT p u (es.push ⟨.obj r,false,o.isChan⟩):=fun u hu=>by
  simp only [Sem.runT,hu];cases o<;>first|rfl|exact absurd ⟨_,_,_,rfl⟩ hcl
 exact gl p _ (k o) w w es _ (e w ho) rfl rfl (fun τ d=>e (w.on τ d) ho) h
theorem pJ {r:Nat}{k:Obj->Sem α}{c:Array Value}{e:TypeId}{z:Nat×Nat}(ho:w.heap[r]?=some (.cells c e z)):Mir p (.getObj r k) w es:=
 gy p _ w es (.halt (.stuck "getObj: a row of cells")) (fun _ => rfl) (fun _ _ _ _ => rfl) (fun τ d => by
  have h1:(w.on τ d).heap[r]?=some (.cells c e z):=ho;simp only [Sem.runT,h1])
theorem uO {r:Nat}{o o':Obj}{k:Sem α}(ho:w.heap[r]?=some o')(hcl:¬∃c e z,o'=.cells c e z)(h:Mir p k {w with heap:=w.heap.setIfInBounds r o} (es.push ⟨.obj r,true,o.isChan⟩)):Mir p (.setObj r o k) w es:=by
 have e:∀u:World,u.heap[r]?=some o'->(Sem.setObj r o k).runT p u es=k.runT p {u with heap:=u.heap.setIfInBounds r o} (es.push ⟨.obj r,true,o.isChan⟩):=fun u hu=>by
  simp only [Sem.runT,hu];cases o'<;>first|rfl|exact absurd ⟨_,_,_,rfl⟩ hcl
 exact gl p _ k w {w with heap:=w.heap.setIfInBounds r o} es _ (e w ho) rfl rfl (fun τ d=>e (w.on τ d) ho) h
theorem pK {r:Nat}{o:Obj}{k:Sem α}{c:Array Value}{e:TypeId}{z:Nat×Nat}(ho:w.heap[r]?=some (.cells c e z)):Mir p (.setObj r o k) w es:=
 gy p _ w es (.halt (.stuck "setObj: a row of cells")) (fun _ => rfl) (fun _ _ _ _ => rfl) (fun τ d => by
  have h1:(w.on τ d).heap[r]?=some (.cells c e z):=ho;simp only [Sem.runT,h1])
theorem kM {q:Question}{k:Nat->Sem α}(hf:q.forced=true)(h:Mir p (k 0) w es):Mir p (.choose q k) w es:=
 gl p _ (k 0) w w es es (by simp only [Sem.runT,hf,if_true]) rfl rfl (fun τ d=>by simp only [Sem.runT,hf,if_true]) h
theorem uP {q:Question}{k:Nat->Sem α}(hf:¬q.forced=true)(h:Mir p (k (q.cut (w.tape w.drawn q))) {w with drawn:=w.drawn+1} es):Mir p (.choose q k) w es:=by
 have e:∀u:World,(Sem.choose q k).runT p u es=(k (q.cut (u.tape u.drawn q))).runT p {u with drawn:=u.drawn+1} es:=fun u=>by simp only [Sem.runT,hf];rfl
 obtain ⟨h1,h2,h3⟩:=h;simp only at h1 h2 h3;refine ⟨by rw [e];exact h1,by rw [e];omega,fun τ d hl=>?_⟩;rw [e w] at hl;rw [e,e w];have h0:τ d=w.tape w.drawn:=by have:=hl 0 (by omega);simpa using this
 have e2:(w.on τ d).tape (w.on τ d).drawn=w.tape w.drawn:=h0;rw [e2];have e3:({w.on τ d with drawn:=(w.on τ d).drawn+1}:World)=({w with drawn:=w.drawn+1}:World).on τ (d+1):=rfl;rw [e3,h3 τ (d+1) (fun i hi=>by
  have:=hl (i+1) (by simp only at hi;omega);rw [show d+1+i=d+(i+1) by omega];simp only;rw [show w.drawn+1+i=w.drawn+(i+1) by omega];exact this)]
 congr 1;generalize hr:((k (q.cut (w.tape w.drawn q))).runT p {w with drawn:=w.drawn+1} es).1=r at *;cases r<;>simp only [Result.on,Result.w] at h2 ⊢ <;> congr 2<;>omega
theorem lG {k:Program->Sem α}(h:Mir p (k p) w es):Mir p (.program k) w es:=gl p _ (k p) w w es es rfl rfl rfl (fun _ _=>rfl) h
theorem tI {m:Mark}{k:Sem α}(h:Mir p k w (es.push ⟨.mark m,false,true⟩)):Mir p (.mark m k) w es:=gl p _ k w w es (es.push ⟨.mark m,false,true⟩) rfl rfl rfl (fun _ _=>rfl) h
end
end
