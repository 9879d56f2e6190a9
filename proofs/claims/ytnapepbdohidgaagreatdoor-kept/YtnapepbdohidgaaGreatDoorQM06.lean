/- Part of a proof. -/
import Derived.Test.YtnapepbdohidgaaGreatDoorQM05
import Derived.RunT
set_option maxHeartbeats 4000000
set_option maxRecDepth 100000
namespace Go.Proofs.YtnapepbdohidgaaGreatDoorQ
section
open Go
section
variable {P:Program} [Two P] {ρ:Ren}
theorem bM {s s':Sem Value}(h:RS P QV ρ s s'):RS P RX ρ (do let x <-s;pure (.value x)) (do let x <-s';pure (.value x)):=ag h (fun _ρ1 _ _v _v' hv=>aa (.value hv))
theorem xq {s s':Sem Unit}(h:RS P QU ρ s s'):RS P RX ρ (do s;pure .skip) (do s';pure .skip):=ag h (fun _ρ1 _ _ _ _=>aa .skip)
theorem r6 (hS:ρ.F ft=true)(at_:Array TypeId)(t:TypeId){a a':Array Value}(h:RVs ρ a a'):RS P QV ρ (Builtin.close_ at_ t a) (Builtin.close_ at_ t a'):=by
 obtain ⟨l⟩:=a;obtain ⟨l'⟩:=a';have hl:l.length=l'.length:=by simpa using h.size
 rcases l with - |⟨x,- |⟨y,l⟩⟩<;>rcases l' with - |⟨x',- |⟨y',l'⟩⟩<;>(try (simp at hl;done))
 ·exact ac _
 ·have hx:=h.at_ 0 x x' rfl rfl;cases hx with
  |chan hp=>exact zT hS at_ t hp
  |_=>exact ac _
 ·exact ac _
theorem vh (hZ:bB P)(hI:GId P ρ)(b:Builtin)(hb:zI ρ.F b=true)(at_:Array TypeId)(hB:BY P b at_=true)(t:TypeId)(cs:Array Bool){a a':Array Value}(h:RVs ρ a a'):RS P RX ρ (builtin b at_ t cs a) (builtin b at_ t cs a'):=by
 cases b<;>first
  |(exfalso;simp [zI,okB] at hb;done)
  |exact bM (xd hZ at_ t h)
  |exact bM (Dz at_ hB t h)
  |exact bM (zW hZ at_ t h)
  |exact bM (r6 (by simpa [zI,okB] using hb) at_ t h)
  |exact bM (B5 at_ t h)
  |exact bM (Dy at_ hB t h)
  |exact bM (DC at_ t h)
  |exact bM (mf (hI.free (by simpa [zI,okB] using hb)) at_ t h)
def bH (P : Program) : Prop := ∀ (f : FuncId) fn, P.funcs[f]? = some fn → fn.name ≠ "runtime.NumGoroutine"
theorem xr (hZ:bB P)(hE:fh P ρ.F)(hN:bH P)(hI:GId P ρ){t t':Target}(ht:RT ρ t t'){a a':Array Value}(h:RVs ρ a a'):RS P RX ρ (invoke t a) (invoke t' a'):=by
 unfold invoke;cases ht with
 |nil=>exact ez
 |builtin b hb at_ ha t cs=>exact vh hZ hI b hb at_ (by rw [<-hI.prog];exact ha) t cs h
 |fn hf hc=>
  cases hf with
  |func f hF=>exact rW hE hI f hF (hN f) (h.append hc)
  |yield hl=>exact Aa hl h
 |collected _=>exact ac _
theorem iY {α : Type} {n : TypeId} (hn : NoM P n) {f : TypeInfo → Sem α} (h : ∀ i, i.methods.find? (fun m => m.name == "") = none → cH P (f i)) : cH P (typeInfo n >>= f) := by
 unfold typeInfo;refine .program (fun p hp=>?_)
 show cH P (Sem.bind (match p.info? n with | some i => Pure.pure i | none => stuck "no such type") _)
 have e:p.info? n=P.info? n:=by
  obtain ⟨t,fs⟩:=p;simp only at hp;subst hp;rfl
 rw [e];cases hi:P.info? n with
 |none=>exact .halt rfl
 |some i=>exact h i (by unfold NoM at hn;rw [hi] at hn;simpa using hn)
theorem r7 {n : TypeId} (hn : NoM P n) (fuel : Nat) (v : Value) : cH P (method fuel n v "") := by
 cases fuel with
 |zero=>exact .halt rfl
 |succ fuel=>
  unfold method;exact iY hn (fun i hi=>by simp only [hi];exact .halt rfl)
theorem oC {n : TypeId} (hn : NoM P n) (fuel : Nat) (v : Value) {α : Type} (f : Option Bool → Sem α) (h0 : cH P (f none)) : cH P (nilAhead fuel n v "" >>= f) := by
 cases fuel with
 |zero=>exact h0
 |succ fuel=>
  unfold nilAhead;exact (iY hn (fun i hi=>by simp only [hi];exact .halt rfl)).bind f
theorem jB (hZ:bB P)(hE:fh P ρ.F)(hN:bH P)(hI:GId P ρ){d d':Deferred}(h:RD ρ d d'):RS P RX ρ (invoke d.target d.args) (invoke d'.target d'.args):=by
 cases h with
 |mk h1 h2=>exact xr hZ hE hN hI h1 h2
 |odd n v a s c a' hn=>
  refine .lost ?_ _;have hb:=ρ.noM;rw [hI.prog,<-hn] at hb;have e:(#[Value.iface n v]++a)[0]?=some (.iface n v):=by
   rw [Array.getElem?_append_left (by simp)];rfl
  unfold invoke;simp only [e];exact .program (fun p hp=>(r7 hb _ _).bind _)
theorem kV (e:TypeId)(s:ByteArray):RS P QV ρ (Conv.stringToRunes e s) (Conv.stringToRunes e s):=by
 have runes:∀ (b i:Nat) (acc:Array Value),RVs ρ acc acc->∀ρ',ρ.le ρ'->RVs ρ' (Conv.runesFrom s b i acc) (Conv.runesFrom s b i acc):=by
  intro b;induction b with
  |zero=>intro i acc h ρ' l;exact h.mono l
  |succ b ih=>
   intro i acc h ρ' l;unfold Conv.runesFrom;split
   ·exact ih _ _ (h.push (.int _ _)) ρ' l
   ·exact h.mono l
 unfold Conv.stringToRunes;refine ae (cI _) (fun ρ1 l1 cap=>?_);refine ag (dx e (RVs.append (runes _ _ _ RVs.nil ρ1 l1) (RVs.self (fun i v h=>?_)))) (fun ρ2 l2 a a' ha=>aa (.slice _ _ (.some ha)));rw [Array.getElem?_replicate] at h;split at h
 ·cases h;exact .int _ _
 ·cases h
theorem mg {α:Type}(t:TypeId){f:TypeDesc->Sem α}(h:∀d,cH P (f d)):cH P (underlying t >>= f):=by
 unfold underlying;refine .program (fun p _=>?_)
 show cH P (Sem.bind (match p.underlying t with | some i => Pure.pure i | none => stuck "no such type") _)
 cases p.underlying t with
 |none=>exact .halt rfl
 |some d=>exact h d
theorem vi (src dst:TypeId)(ho:wW P src dst=true){x x':Value}(hx:RV ρ x x'):RS P QV ρ (convert src dst x) (convert src dst x'):=by
 unfold convert;refine ag (aP src) (fun ρ1 l1 ds ds' hs=>?_);obtain ⟨rfl,hs⟩:=hs;refine ag (aP dst) (fun ρ2 l2 dd dd' hd=>?_);obtain ⟨rfl,hd⟩:=hd;unfold wW at ho;rw [hs,hd] at ho;have hx2:=(hx.mono l1).mono l2;have hx0:=hx2;cases ds<;>cases dd<;>(try (exfalso;revert ho;simp;done))
 ·cases hx2 with
  |int k n=>exact aa (.int _ _)
  |pointer h=>cases h<;>exact ah _
  |_=>exact ah _
 ·cases hx2 with
  |int k n=>exact aa (.string _)
  |string s=>exact aa (.string _)
  |_=>exact ah _
 ·cases hx2 with
  |string s=>
   refine ae (ao _) (fun ρ3 l3 d=>?_);cases d with
   |int k=>cases k<;>first|exact ac _|exact kQ _ _|exact kV _ _
   |_=>exact ac _
  |slice n c h=>cases h<;>exact ah _
  |_=>exact ah _
 ·cases hx2 with
  |int k n=>exact aa (.string _)
  |string s=>exact aa (.string _)
  |dead _ _=>
   refine .lost (mg _ (fun d=>?_)) _;cases d with
   |int k=>cases k<;>exact .halt rfl
   |_=>exact .halt rfl
  |_=>
   refine ae (ao _) (fun ρ3 l3 d=>?_);cases d with
   |int k=>cases k<;>first|exact ac _|exact kT (P:=P) (hx0.mono l3)|exact kU (P:=P) (hx0.mono l3)
   |_=>exact ac _
end
section
variable {P:Program} {ρ:Ren}
theorem r8 {v:Value}(h:kL v=true):RV ρ v v:=by
 cases v with
 |pointer a=>cases a with|none=>exact .pointer .none|some a=>simp [kL] at h
 |slice a n c=>cases a with|none=>exact .slice _ _ .none|some a=>simp [kL] at h
 |map a=>cases a with|none=>exact .map .none|some a=>simp [kL] at h
 |chan a=>cases a with|none=>exact .chan .none|some a=>simp [kL] at h
 |bool b=>exact .bool b
 |int k n=>exact .int k n
 |string s=>exact .string s
 |nilFunc=>exact .nilFunc
 |nilIface=>exact .nilIface
 |_=>simp [kL] at h
theorem xu {c:Array Value}(h:c.all kL=true):RVs ρ c c:=RVs.self (fun i v hv=>r8 (by
 have:=Array.all_eq_true.1 h;obtain ⟨hi,rfl⟩:=eS hv;exact this i hi))
theorem xv {v:Value}(h:lE v=true):RV ρ v v:=by
 cases v with
 |agg c=>exact .agg rfl (xu h).at_
 |tuple c=>exact .tuple rfl (xu h).at_
 |iface t v=>exact .iface t (r8 h)
 |_=>exact r8 h
def zC (P:Program)(ρ:Ren)(e e':Operand->Value):Prop:=∀x,okX P ρ.F x=true->RV ρ (e x) (e' x)
theorem zC.all {e e':Operand->Value}(h:zC P ρ e e'){a:Array Operand}(ha:a.all (okX P ρ.F)=true):RVs ρ (a.map e) (a.map e'):=by
 refine ⟨by simp,fun i v v' h1 h2=>?_⟩;rw [Array.getElem?_map] at h1 h2;cases hx:a[i]? with
 |none=>rw [hx] at h1;cases h1
 |some x=>
  rw [hx] at h1 h2;cases h1;cases h2;obtain ⟨hi,rfl⟩:=eS hx;exact h _ (Array.all_eq_true.1 ha i hi)
theorem zC.parts {e e':Operand->Value}(h:zC P ρ e e'):∀ (l:List (Nat×Operand)),(∀p∈l,okX P ρ.F p.2=true)->RPs ρ (l.map (fun p=>(p.1,e p.2))) (l.map (fun p=>(p.1,e' p.2))):=by
 intro l;induction l with
 |nil=>intro _;exact .nil
 |cons p l ih=>intro hp;exact .cons p.1 (h _ (hp p (List.mem_cons_self ..))) (ih (fun q hq=>hp q (List.mem_cons_of_mem _ hq)))
theorem zC.partsA {e e':Operand->Value}(h:zC P ρ e e'){a:Array (Nat×Operand)}(ha:a.all (fun p=>okX P ρ.F p.2)=true):RPs ρ (a.map (fun (i,x)=>(i,e x))).toList (a.map (fun (i,x)=>(i,e' x))).toList:=by
 simp only [Array.toList_map];refine h.parts a.toList (fun p hp=>?_);have:=Array.all_eq_true.1 ha;obtain ⟨i,hi,rfl⟩:=List.mem_iff_getElem.1 hp;simpa using this i (by simpa using hi)
theorem r9 {e e':Operand->Value}(h:zC P ρ e e'){o:Option Operand}(ho:o.all (okX P ρ.F)=true):(∀v v',o.map e=some v->o.map e'=some v'->RV ρ v v')/\(o.map e).isSome=(o.map e').isSome:=by
 cases o with
 |none=>exact ⟨fun v v' h=>by simp at h,rfl⟩
 |some x=>exact ⟨fun v v' h1 h2=>by simp at h1 h2;subst h1;subst h2;exact h x ho,rfl⟩
variable [Two P]
theorem ij (hI:GId P ρ){e e':Operand->Value}(he:zC P ρ e e')(c:Call)(hc:iX P ρ.F c=true)(t:TypeId):RS P (fun ρ d d'=>RD ρ d d') ρ (resolve e c t) (resolve e' c t):=by
 unfold resolve;unfold iX at hc;rw [bT] at hc;have ha:=he.all hc.2;cases hk:c.callee with
 |builtin b=>
  rw [hk] at hc;have hb:=hc.1;rw [bT] at hb;exact aa (.mk (.builtin _ hb.1 _ (by rw [hI.prog];exact hb.2) _ _) ha)
 |value f=>
  rw [hk] at hc;have hf:=he f hc.1;exact ny hf ha
 |invoke r n=>rw [hk] at hc;simp at hc
theorem xx (hZ:bB P)(hE:fh P ρ.F)(hN:bH P)(hI:GId P ρ){e e':Operand->Value}(he:zC P ρ e e')(hf1:∀f,e (.func f)=.func (.func f) #[] #[])(hf2:∀f,e' (.func f)=.func (.func f) #[] #[])(hK:∀x,BZ x=true->zB (e x)=true)(o:Oper)(ho:fq P ρ.F o.op=true)(hnc:BC o.op=false):RS P RX1 ρ (execOp e o) (execOp e' o):=by
 have lift:∀ {x x':Sem Next},RS P RX ρ x x'->RS P RX1 ρ x x':=fun h=>h.imp (fun _ _ _ k=>.of k)
 unfold execOp;cases hop:o.op with
 |move x=>rw [hop] at ho;exact aa (.of <| .value (he x ho))
 |assign x=>rw [hop] at ho;exact aa (.of <| .value (he x ho))
 |pick c a b=>
  rw [hop] at ho;simp only [fq,bT] at ho;refine ae (pP (he c ho.1.1)) (fun ρ1 l1 x=>aa (.of <| .value ?_));cases x
  ·exact (he b ho.2).mono l1
  ·exact (he a ho.1.2).mono l1
 |alloc t=>exact lift <|bM (zO hZ t)
 |box t x=>rw [hop] at ho;exact lift <|bM (Dx t (he x ho))
 |build t ps=>rw [hop] at ho;exact lift <|bM (zZ hZ t (he.partsA ho))
 |buildSlice t n ps=>rw [hop] at ho;exact lift <|bM (ow hZ t n (he.partsA ho))
 |load t a=>rw [hop] at ho;exact lift <|bM (xc t (he a ho))
 |store t a x=>rw [hop] at ho;simp only [fq,bT] at ho;exact lift <|xq (uQ t (he a ho.1) (he x ho.2))
 |nilCheck x=>
  rw [hop] at ho;have hx:=he x ho;have hx0:=hx;simp only;generalize e x=v at hx hx0;generalize e' x=v' at hx hx0;cases hx with
  |pointer h=>cases h with|none=>exact ez|some h=>exact aa (.of <| .value hx0)
  |nilIface=>exact ez
  |nilFunc=>exact ez
  |func hf h1 h2 k1 k2=>cases hf<;>exact aa (.of <| .value hx0)
  |odd n s a c hn=>
   have hb:=ρ.noM;rw [hI.prog,<-hn] at hb;exact .lost (.program (fun p hp=>oC hb _ _ _ (.halt rfl))) _
  |dead _ h=>
   cases v' with
   |pointer a=>cases a<;>first|exact aa (.of <| .value hx0)|(simp [gv] at h;done)
   |func f a c=>cases f<;>first|exact aa (.of <| .value hx0)|(simp [gv] at h;done)
   |slice a n c=>exact aa (.of <| .value hx0)
   |map a=>exact aa (.of <| .value hx0)
   |chan a=>exact aa (.of <| .value hx0)
   |iface t v=>exact aa (.of <| .value hx0)
   |float k b=>exact aa (.of <| .value hx0)
   |complex k a b=>exact aa (.of <| .value hx0)
   |tuple a=>exact aa (.of <| .value hx0)
   |_=>simp [gv] at h
  |_=>exact aa (.of <| .value hx0)
 |binOp op t x y u=>
  rw [hop] at ho;simp only [fq,bT] at ho;have hx:=he x ho.1.1;have hy:=he y ho.1.2;refine lift <|bM (ag (uW op t x y hx hy) (fun ρ1 l1 _ _ _=>?_))
  refine zY (hI.mono l1) op t (hx.mono l1) (hy.mono l1) (fun hop2=>?_);have hE2:=ho.2;have hE3:gm (P.underlying t)=true\/BZ x=true\/BZ y=true\/rM P 6 t=true:=by
   rcases hop2 with rfl|rfl<;>simpa [Ez,Bool.or_eq_true,or_assoc] using hE2
  rcases hE3 with h|h|h|h
  ·exact ii _ (hI.mono l1) t (hx.mono l1) (hy.mono l1) (.inl h)
  ·refine ii _ (hI.mono l1) t (hx.mono l1) (hy.mono l1) (.inr (.inl ?_));exact hK x h
  ·refine ii _ (hI.mono l1) t (hx.mono l1) (hy.mono l1) (.inr (.inr ?_));exact hK y h
  ·exact xn _ 6 (hI.mono l1) t (hx.mono l1) (hy.mono l1) h
 |unOp op t x=>rw [hop] at ho;exact lift <|bM (zV op (he x ho))
 |convert s d x=>rw [hop] at ho;simp only [fq,bT] at ho;exact lift <|bM (vi s d ho.1 (he x ho.2))
 |makeInterface t x=>rw [hop] at ho;exact lift <|bM (kO t (he x ho))
 |makeFunc f a c=>
  rw [hop] at ho;cases f with
  |func f=>simp only [fq,bT] at ho;exact lift <|bM (rR (.func f ho.1.1) (he.all ho.1.2) (he.all ho.2))
  |_=>simp [fq] at ho
 |makeChan t x=>rw [hop] at ho;simp only [fq,bT] at ho;exact lift <|bM (rS ho.1 t (he x ho.2))
 |makeSlice t a x=>rw [hop] at ho;simp only [fq,bT] at ho;exact lift <|bM (pQ hZ t (he a ho.1) (he x ho.2))
 |slice t x lo hi mx=>
  rw [hop] at ho;simp only [fq,bT] at ho;have h1:=r9 he ho.1.1.2;have h2:=r9 he ho.1.2;have h3:=r9 he ho.2;exact lift <|bM (uU t (he x ho.1.1.1) h1.1 h2.1 h3.1 h1.2 h2.2 h3.2)
 |fieldAddr s x f=>rw [hop] at ho;exact lift <|bM (uT s (he x ho) f)
 |field t x f=>rw [hop] at ho;exact lift <|bM (zP t (he x ho) f)
 |indexAddr t x i=>rw [hop] at ho;simp only [fq,bT] at ho;exact lift <|bM (uS t (he x ho.1) (he i ho.2))
 |index t x i=>rw [hop] at ho;simp only [fq,bT] at ho;exact lift <|bM (zQ t (he x ho.1) (he i ho.2))
 |extract x i=>rw [hop] at ho;exact lift <|bM (uR (he x ho) i)
 |call c=>
  rw [hop] at ho;rcases uK ho with hc|⟨f,hk,h1,h2,h3⟩
  rotate_left
  ·have r1:∀ (q:Operand->Value),q (.func f)=.func (.func f) #[] #[]->(do let d <-resolve q c o.type;invoke d.target d.args:Sem Next)=callFunc f (c.args.map q):=fun q hq=>by
    unfold resolve;simp only [hk,hq];show invoke (.fn (.func f) #[]) (#[]++c.args.map q)=_;unfold invoke;simp
   show RS P RX1 ρ (do let d <-resolve e c o.type;invoke d.target d.args) (do let d <-resolve e' c o.type;invoke d.target d.args);rw [r1 e (hf1 f),r1 e' (hf2 f)];exact xj hI f h1 (hN f) (he.all h2) (by rw [Array.size_map];exact h3)
  refine lift ?_;exact ag (ij hI he c hc o.type) (fun ρ1 l1 d d' hd=>jB hZ (by rw [l1.F];exact hE) hN (hI.mono l1) hd)
 |go c=>
  rw [hop] at ho;simp only [fq,bT] at ho;refine lift ?_;exact ag (ij hI he c ho.2 o.type) (fun ρ1 l1 d d' hd=>aa (.spawn (by rw [l1.F];exact ho.1) hd))
 |defer c=>
  rw [hop] at ho;simp only [fq] at ho;rw [bT] at ho;refine lift ?_;exact ag (ij hI he c ho.2 o.type) (fun ρ1 l1 d d' hd=>aa (.defer (by rw [l1.F];exact ho.1) hd))
 |send c x=>rw [hop] at hnc;cases hnc
 |recv t c ok=>rw [hop] at hnc;cases hnc
 |lookup t x i ok=>rw [hop] at ho;simp only [fq,bT] at ho;exact lift <|bM (xo hZ t ho.1.1 (he x ho.1.2) (he i ho.2) ok)
 |mapUpdate t m k x=>rw [hop] at ho;simp only [fq,bT] at ho;exact lift <|xq (pU t ho.1.1.1 (he m ho.1.1.2) (he k ho.1.2) (he x ho.2))
 |makeMap t r=>
  rw [hop] at ho;cases r with
  |none=>exact lift <|bM (ve t)
  |some _=>simp [fq] at ho
 |panic x=>rw [hop] at ho;exact lift <|bM (Ab (he x ho))
 |_=>rw [hop] at ho;simp [fq] at ho
end
inductive RI (P:Program)(ρ:Ren):Item->Item->Prop
 |code {c:Code} (h:aA P ρ.F c=true):RI P ρ (.code c) (.code c)
 |inBlock (id:Nat):RI P ρ (.inBlock id) (.inBlock id)
 |inLoop {c:Code} (h:aA P ρ.F c=true):RI P ρ (.inLoop c) (.inLoop c)
 |inScope {c:Code} (h:aA P ρ.F c=true):RI P ρ (.inScope c) (.inScope c)
 |inRegion {ops:Array Oper} (l:List Nat) (h:ops.all (fun o=>fq P ρ.F o.op)=true):RI P ρ (.inRegion ops l) (.inRegion ops l)
 |regionEnd (ops ops':Array Oper):RI P ρ (.inRegion ops []) (.inRegion ops' [])
 |inRangeFunc {l l':Nat} (h:ρ l l'):RI P ρ (.inRangeFunc l) (.inRangeFunc l')
 |endRangeFunc {l l':Nat} (h:ρ l l'):RI P ρ (.endRangeFunc l) (.endRangeFunc l')
 |beginRound:RI P ρ .beginRound .beginRound
inductive RIs (P:Program)(ρ:Ren):List Item->List Item->Prop
 |nil:RIs P ρ [] []
 |cons {i i':Item} {l l':List Item} (h:RI P ρ i i') (hl:RIs P ρ l l'):RIs P ρ (i::l) (i'::l')
inductive RPn (ρ:Ren):List PanicEntry->List PanicEntry->Prop
 |nil:RPn ρ [] []
 |cons {v v':Value} (r g:Bool) {l l':List PanicEntry} (h:RV ρ v v') (hl:RPn ρ l l'):RPn ρ ({v,recovered:=r,goexit:=g} :: l) ({v:=v',recovered:=r,goexit:=g} :: l')
inductive RM (ρ:Ren):FrameMode->FrameMode->Prop
 |run:RM ρ .run .run
 |returning:RM ρ .returning .returning
 |panicking {l l':List PanicEntry} (h:RPn ρ l l'):RM ρ (.panicking l) (.panicking l')
structure RFr (P:Program)(ρ:Ren)(fr fr':Frame):Prop where
 fn:fr.fn=fr'.fn
 tmps:RVs ρ fr.tmps fr'.tmps
 todo:RIs P ρ fr.todo fr'.todo
 defers:RDs ρ fr.defers fr'.defers
 mode:RM ρ fr.mode fr'.mode
 early:(fr.kind == .early)=false/\(fr'.kind == .early)=false/\fr'.kind≠.report
 round:RNo ρ fr.roundOf fr'.roundOf
def Kd (X:List Frame×List Frame)(fr fr':Frame)(cs':List Frame):Prop:=(cs'≠X.2\/2<=X.1.length->fr.kind=fr'.kind)/\(cs'=X.2->fr.roundOf=none)
inductive RFs (P:Program)(ρ:Ren)(X:List Frame×List Frame):List Frame->List Frame->Prop
 |base:RFs P ρ X X.1 X.2
 |cons {f f':Frame} {l l':List Frame} (h:RFr P ρ f f') (hk:Kd X f f' l') (hl:RFs P ρ X l l'):RFs P ρ X (f::l) (f'::l')
theorem cD {ρ:Ren}:RV ρ undef undef:=.tuple rfl (fun i v v' e=>by simp at e)
section
variable {P:Program} {ρ ρ':Ren}
theorem RI.mono (hle:ρ.le ρ'){i i':Item}(h:RI P ρ i i'):RI P ρ' i i':=by
 cases h with
 |code h=>exact .code (by rw [hle.F];exact h)
 |inBlock id=>exact .inBlock id
 |inLoop h=>exact .inLoop (by rw [hle.F];exact h)
 |inScope h=>exact .inScope (by rw [hle.F];exact h)
 |inRegion l h=>exact .inRegion l (by rw [hle.F];exact h)
 |regionEnd a b=>exact .regionEnd a b
 |inRangeFunc h=>exact .inRangeFunc (hle _ _ h)
 |endRangeFunc h=>exact .endRangeFunc (hle _ _ h)
 |beginRound=>exact .beginRound
theorem RIs.mono (hle:ρ.le ρ'){l l':List Item}(h:RIs P ρ l l'):RIs P ρ' l l':=by
 induction h with
 |nil=>exact .nil
 |cons h _ ih=>exact .cons (h.mono hle) ih
theorem RPn.mono (hle:ρ.le ρ'){l l':List PanicEntry}(h:RPn ρ l l'):RPn ρ' l l':=by
 induction h with
 |nil=>exact .nil
 |cons r g h _ ih=>exact .cons r g (h.mono hle) ih
theorem RM.mono (hle:ρ.le ρ'){m m':FrameMode}(h:RM ρ m m'):RM ρ' m m':=by
 cases h with
 |run=>exact .run
 |returning=>exact .returning
 |panicking h=>exact .panicking (h.mono hle)
theorem RFr.mono (hle:ρ.le ρ'){f f':Frame}(h:RFr P ρ f f'):RFr P ρ' f f':=⟨h.fn,h.tmps.mono hle,h.todo.mono hle,h.defers.mono hle,h.mode.mono hle,h.early,h.round.mono hle⟩
theorem RFs.mono {X:List Frame×List Frame}(hle:ρ.le ρ'){l l':List Frame}(h:RFs P ρ X l l'):RFs P ρ' X l l':=by
 induction h with
 |base=>exact .base
 |cons h hk _ ih=>exact .cons (h.mono hle) hk ih
theorem RVs.getD {c c':Array Value}(h:RVs ρ c c')(i:Nat):RV ρ (c.getD i undef) (c'.getD i undef):=by
 rcases h.get i with ⟨h1,h2⟩|⟨v,v',h1,h2,hv⟩
 ·simp only [gD,h1,h2,Option.getD_none];exact cD
 ·simp only [gD,h1,h2,Option.getD_some];exact hv
theorem RFr.finish {f f':Frame}(h:RFr P ρ f f'){v v':Value}(hv:RV ρ v v'):RFr P ρ (f.finish v) (f'.finish v'):=by
 unfold Frame.finish;have ht:=h.todo;generalize hx:f.todo=td at ht;generalize hx':f'.todo=td' at ht;cases ht with
 |nil=>exact h
 |cons hi hk=>
  cases hi with
  |inRegion l ho=>
   cases l with
   |nil=>exact h
   |cons j l=>
    refine ⟨h.fn,?_,.cons (.inRegion l ho) hk,h.defers,h.mode,h.early,h.round⟩;dsimp only;split
    ·exact h.tmps.set _ hv
    ·exact h.tmps
  |inRangeFunc hl=>exact ⟨h.fn,h.tmps,.cons (.endRangeFunc hl) hk,h.defers,h.mode,h.early,h.round⟩
  |beginRound=>exact ⟨h.fn,h.tmps,hk,h.defers,h.mode,h.early,h.round⟩
  |_=>exact h
variable [Two P]
theorem RFr.env (hg:GId P ρ){f f':Frame}(h:RFr P ρ f f'):zC P ρ f.eval f'.eval:=by
 intro x hx;cases x with
 |tmp t=>exact h.tmps.getD t
 |const v=>exact xv hx
 |global g=>exact .pointer (.some ⟨hg.glob g (of_decide_eq_true hx),rfl,rfl⟩)
 |func f=>exact .func (.func f hx) rfl rfl (fun i v v' e=>by simp at e) (fun i v v' e=>by simp at e)
theorem RFr.enter (hI:GId P ρ)(f:FuncId)(hF:ρ.F f=true)(k:CallKind)(hk:(k == .early)=false)(hk2:k≠.report){a a':Array Value}(h:RVs ρ a a'):RFr P ρ (Frame.enter P f a k) (Frame.enter P f a' k):=by
 refine ⟨rfl,?_,.cons (.code ?_) .nil,.nil,.run,⟨hk,hk,hk2⟩,.none⟩
 ·show RVs ρ (a++Array.replicate _ undef) (a'++Array.replicate _ undef);rw [h.size];refine h.append (RVs.self (fun i v e=>?_));rw [Array.getElem?_replicate] at e;split at e
  ·cases e;exact cD
  ·cases e
 ·cases hf:P.funcs[f]? with
  |none=>rfl
  |some fn=>
   cases hb:fn.body with
   |none=>simp [hb,aA]
   |some b=>simpa [hb] using hI.code f fn b hF hf hb
theorem pW (hI:GId P ρ)(f:FuncId)(hF:ρ.F f=true)(k:CallKind)(a:Array Value):Frame.enter P.alt f a k=Frame.enter P f a k:=by
 unfold Frame.enter;rw [hI.alt f hF]
end
theorem RFs.len {P:Program}{ρ:Ren}{X:List Frame×List Frame}{l l':List Frame}(h:RFs P ρ X l l'):X.2.length<=l'.length:=by
 induction h with
 |base=>exact lR _
 |cons _ _ _ ih=>simp only [lC];omega
theorem RFs.ne {P:Program}{ρ:Ren}{X:List Frame×List Frame}{l l':List Frame}{f':Frame}(h:RFs P ρ X l l'):f'::l'≠X.2:=fun e=>by
 have:=h.len;rw [<-e] at this;simp at this;omega
theorem xy (fr:Frame):∀x,BZ x=true->zB (fr.eval x)=true:=fun x h=>by
 cases x with
 |const v=>exact h
 |_=>simp [BZ] at h
inductive Shp where
 |go (g:Goroutine)
 |comm (g:Goroutine) (cs:Array CommCase) (b:Bool) (s:CommShape)
 |spawn (g k:Goroutine)
def Shp.mk:Shp->World->Array Event->GStep
 | .go g,w,es=>.go g w es
 | .comm g cs b s,w,es=>.comm g cs b s w es
 | .spawn g k,w,es=>.spawn g k w es
def Shp.ok:Shp->Prop
 | .go g=>g.dying=none
 |_=>True
theorem Shp.mk_inj {x y:Shp}{w w':World}{es es':Array Event}(h:x.mk w es=y.mk w' es'):x=y/\w=w'/\es=es':=by
 cases x<;>cases y<;>simp [Shp.mk] at h<;>obtain ⟨h1,h2⟩:=h<;>simp_all
theorem Shp.mk_after (x:Shp)(w:World)(E es:Array Event):GStep.after E (x.mk w es)=x.mk w (E++es):=by cases x<;>rfl
def rI (w:World)(f:World->GStep):Prop:=
 ∀x w' es,Shp.ok x->f w=x.mk w' es->w'.tape=w.tape/\w.drawn<=w'.drawn/\∀τ d,Like w w' τ d->f (w.on τ d)=x.mk (w'.on τ (d+(w'.drawn-w.drawn))) es
theorem jC (w:World)(x:Shp)(es:Array Event):rI w (fun u=>x.mk u es):=by
 intro y w' es' _ h;obtain ⟨rfl,rfl,rfl⟩:=Shp.mk_inj h;exact ⟨rfl,lR _,fun τ d _=>by simp⟩
theorem ce (w:World)(g:Goroutine)(es:Array Event):rI w (fun u=>.go g u es):=jC w (.go g) es
def noShp (x:GStep):Prop:=∀y w' es,Shp.ok y->x≠Shp.mk y w' es
theorem iD (w:World)(f:World->GStep)(h:noShp (f w)):rI w f:=fun x w' es ho e=>absurd e (h x w' es ho)
theorem xz {E:Array Event}{s:GStep}{x:Shp}{w':World}{es:Array Event}(h:GStep.after E s=x.mk w' es):∃es',s=x.mk w' es'/\es=E++es':=by
 cases s<;>cases x<;>simp [GStep.after,Shp.mk] at h ⊢
 all_goals
  first
  |(obtain ⟨rfl,rfl,rfl⟩:=h;exact ⟨_,⟨rfl,rfl,rfl⟩,rfl⟩)
  |(obtain ⟨rfl,rfl,rfl,rfl⟩:=h;exact ⟨_,⟨rfl,rfl,rfl,rfl⟩,rfl⟩)
  |(obtain ⟨rfl,rfl,rfl,rfl,rfl,rfl⟩:=h;exact ⟨_,⟨rfl,rfl,rfl,rfl,rfl,rfl⟩,rfl⟩)
theorem aI {w:World}{f:World->GStep}(E:Array Event)(h:rI w f):rI w (fun u=>GStep.after E (f u)):=by
 intro x w' es hd e;obtain ⟨es',h1,rfl⟩:=xz e;obtain ⟨k1,k2,k3⟩:=h _ _ _ hd h1;exact ⟨k1,k2,fun τ d hl=>by simp only [k3 τ d hl,Shp.mk_after]⟩
theorem pX {w u w':World}{τ:Nat->Question->Nat}{d:Nat}(hl:Like w w' τ d)(h:u.drawn<=w'.drawn):Like w u τ d:=fun i hi=>hl i (by omega)
theorem nA {w u w':World}{τ:Nat->Question->Nat}{d:Nat}(hl:Like w w' τ d)(ht:u.tape=w.tape)(h:w.drawn<=u.drawn):Like u w' τ (d+(u.drawn-w.drawn)):=fun i hi=>by
 have:=hl (u.drawn-w.drawn+i) (by omega);rw [show d+(u.drawn-w.drawn)+i=d+(u.drawn-w.drawn+i) by omega,this,ht,show w.drawn+(u.drawn-w.drawn+i)=u.drawn+i by omega]
theorem eT (p:Program)(f:FuncId):seen p f #[]=#[]:=rfl
theorem bP (x:GStep):GStep.after #[] x=x:=by cases x<;>simp [GStep.after]
theorem Ad {p:Program}{fr:Frame}{callers:List Frame}{dying:Option Dying}{s:Sem Next}{w u:World}{a:Next}{es:Array Event}(h:s.runT p w #[]=(.ok a u,es)):
  stepG.apply p true fr callers dying s w=GStep.after (seen p fr.fn (if fr.kind == .early then #[] else es)) (stepG.apply p true fr callers dying (.pure a) u):=by
 unfold stepG.apply;simp only [if_true,h,Sem.runT];have e:seen p fr.fn (if fr.kind == .early then #[] else #[])=#[]:=by split<;>exact eT _ _
 rw [e,bP]
def pY (a:Halt)(es:Array Event):Array Event:=
 match a with
 | .blocked=>#[]
 | .waiting=>#[]
 | .unsupported (.initOrder _)=>#[]
 |_=>es
theorem vj {p:Program}{fr:Frame}{callers:List Frame}{dying:Option Dying}{s:Sem Next}{w u:World}{a:Halt}{es:Array Event}(h:s.runT p w #[]=(.halt a u,es)):
  stepG.apply p true fr callers dying s w=GStep.after (seen p fr.fn (if fr.kind == .early then #[] else pY a es)) (stepG.apply p true fr callers dying (.halt a) u):=by
 have e:seen p fr.fn (if fr.kind == .early then #[] else #[])=#[]:=by split<;>exact eT _ _
 unfold stepG.apply;simp only [if_true,h,Sem.runT];cases a with
 |unsupported x=>cases x<;>simp only [pY,e,bP]
 |_=>simp only [pY,e,bP]
theorem dz {p:Program}{f:FuncId}{es:Array Event}{e:Event}(h:e∈seen p f es):e∈es:=by
 unfold seen at h;simp only [<-Array.foldl_toList] at h;have gen:∀ (l:List Event) (q:Bool) (kept:Array Event),e∈(l.foldl (fun (x:Bool×Array Event) e=>match e.loc with
   | .mark (.extern f)=>((p.funcs[f]?).any (·.norace),x.2)
   |_=>(x.1,if x.1 && !e.sync then x.2 else x.2.push e)) (q,kept)).2->e∈kept\/e∈l:=by
  intro l;induction l with
  |nil=>intro q kept h;exact .inl h
  |cons y l ih=>
   intro q kept h;simp only [List.foldl_cons] at h;split at h
   ·rcases ih _ _ h with h|h
    ·exact .inl h
    ·exact .inr (List.mem_cons_of_mem _ h)
   ·rcases ih _ _ h with h|h
    ·split at h
     ·exact .inl h
     ·rcases Array.mem_push.1 h with h|h
      ·exact .inl h
      ·exact .inr (h▸List.mem_cons_self ..)
    ·exact .inr (List.mem_cons_of_mem _ h)
 rcases gen _ _ _ h with h|h
 ·simp at h
 ·simpa using h
structure Reach (ρ ρ':Ren)(w w' u u':World):Prop where
 le:ρ.le ρ'
 chs:Chs ρ w w' u u'
 sim:br ρ' u u'
 keep:Keep ρ w' u'
 new:∀a b,ρ' a b->ρ a b\/(w.heap.size<=a/\w'.heap.size<=b)
 drawn:u'.drawn+w.drawn=w'.drawn+u.drawn
 tape:u.tape=w.tape
 low:w.drawn<=u.drawn
 grow:w.heap.size<=u.heap.size
theorem Reach.trans {ρ ρ' ρ'':Ren}{w w' u u' v v':World}(h:Reach ρ ρ' w w' u u')(k:Reach ρ' ρ'' u u' v v'):Reach ρ ρ'' w w' v v':=by
 refine ⟨Ren.le_trans h.le k.le,h.chs.trans h.le k.chs,k.sim,h.keep.trans k.keep h.le.old (fun a b hab=>(h.new a b hab).imp id (·.2)),fun a b hab=>?_,by have:=h.drawn;have:=k.drawn;omega,k.tape.trans h.tape,lT h.low k.low,lT h.grow k.grow⟩;rcases k.new a b hab with x|⟨x,y⟩
 ·exact h.new a b x
 ·have:=h.keep.size;have:=h.grow;exact .inr ⟨by omega,by omega⟩
structure RGo (P:Program)(ρ:Ren)(X:List Frame×List Frame)(g g':Goroutine):Prop where
 frame:RFr P ρ g.frame g'.frame
 callers:RFs P ρ X g.callers g'.callers
 kind:Kd X g.frame g'.frame g'.callers
 status:g.status=.running/\g'.status=.running
 dying:g.dying=none/\g'.dying=none
 offers:g.offers=none/\g'.offers=none
def pZ (g:Goroutine):Prop:=∃d f,g.dying=some d/\d.calling=false/\d.fatal=some f
def Lost:GStep->Prop
 | .ended _ _ _=>True
 | .go g _ _=>pZ g/\g.status=.running
 |_=>False
theorem Lost.noShp {x:GStep}(h:Lost x):noShp x:=fun y w' es ho e=>by
 subst e;cases y with
 |go g=>obtain ⟨⟨d,f,h1,-⟩,-⟩:=h;rw [show g.dying=none from ho] at h1;cases h1
 |_=>exact h
theorem Lost.after {x:GStep}(h:Lost x)(E:Array Event):Lost (GStep.after E x):=by cases x<;>exact h
def AtC (P:Program)(g:Goroutine)(c:CommCase)(s:CommShape):Prop:=∀m v,stepG P m g v=.comm g #[c] true s v #[]
inductive cJ (P:Program) [Two P](ρ:Ren)(X:List Frame×List Frame)(w w':World):GStep->GStep->Prop
 |go {g g':Goroutine} {u u':World} (es:Array Event) {es':Array Event} (ρ':Ren) (R:Reach ρ ρ' w w' u u') (h:RGo P ρ' X g g') (he:∀e∈es',ie ρ' e):cJ P ρ X w w' (.go g u es) (.go g' u' es')
 |comm {g g':Goroutine} {c c':CommCase} (hC:(c.send.isSome=true->ρ.F ft=true)/\(c.send=none->ρ.F Dq=true)) (s:CommShape) (hs:(c.send.isSome=true/\s=.send)\/(c.send=none/\∃ok,s=.recv ok)) (hrun:g.status=.running/\g'.status=.running) {u u':World} (es:Array Event) {es':Array Event} (ρ':Ren) (R:Reach ρ ρ' w w' u u') (h:RGo P ρ' X g g') (hc:RC ρ' c c') (he:∀e∈es',ie ρ' e) (ha:AtC P g c s/\AtC P.alt g c s/\AtC P g' c' s):cJ P ρ X w w' (.comm g #[c] true s u es) (.comm g' #[c'] true s u' es')
 |spawn (hC:ρ.F j8=true) {g g' k k':Goroutine} {u u':World} (es:Array Event) {es':Array Event} (ρ':Ren) (R:Reach ρ ρ' w w' u u') (h:RGo P ρ' X g g') (hk:RGo P ρ' ([],[]) k k') (he:∀e∈es',ie ρ' e):cJ P ρ X w w' (.spawn g k u es) (.spawn g' k' u' es')
theorem cJ.after {P:Program} [Two P]{ρ:Ren}{X:List Frame×List Frame}{w w':World}{x x':GStep}(h:cJ P ρ X w w' x x')(E:Array Event){E':Array Event}(hE:∀ρ',ρ.le ρ'->∀e∈E',ie ρ' e):cJ P ρ X w w' (GStep.after E x) (GStep.after E' x'):=by
 have ap:∀ (ρ':Ren),ρ.le ρ'->∀ (es':Array Event),(∀e∈es',ie ρ' e)->∀e∈E'++es',ie ρ' e:=fun ρ' l es' h e he=>by
  rcases Array.mem_append.1 he with h1|h1
  ·exact hE ρ' l e h1
  ·exact h e h1
 cases h with
 |go es ρ' R h he=>exact .go _ ρ' R h (ap ρ' R.le _ he)
 |comm hC s hs hrun es ρ' R h hc he ha=>exact .comm hC s hs hrun _ ρ' R h hc (ap ρ' R.le _ he) ha
 |spawn hC es ρ' R h hk he=>exact .spawn hC _ ρ' R h hk (ap ρ' R.le _ he)
structure Apart (P:Program) [Two P](ρ:Ren)(X:List Frame×List Frame)(w w':World)(f:FuncId)(ρ':Ren)(a a':Array Value)(fr fr':Frame)(cs cs':List Frame)(u u':World)(es es':Array Event)(x xa x':GStep):Prop where
 mark:Mk ρ.F f=true
 reach:Reach ρ ρ' w w' u u'
 args:RVs ρ' a a'/\a.size=2
 frame:RFr P ρ' fr fr'
 callers:RFs P ρ' X cs cs'
 kind:Kd X fr fr' cs'
 ev:∀e∈es',ie ρ' e
 here:x=.go {frame:=Frame.enter P f a .normal,callers:=fr::cs,status:=.running,dying:=none} u es
 other:xa=.go {frame:=Frame.enter P.alt f a .normal,callers:=fr::cs,status:=.running,dying:=none} u es
 there:x'=.go {frame:=Frame.enter P f a' .normal,callers:=fr'::cs',status:=.running,dying:=none} u' es'
def SR (P:Program) [Two P](ρ:Ren)(X:List Frame×List Frame)(w w':World)(x xa x':GStep):Prop:=(Lost x/\Lost xa)\/(xa=x/\cJ P ρ X w w' x x')\/∃f ρ' a a' fr fr' cs cs' u u' es es',Apart P ρ X w w' f ρ' a a' fr fr' cs cs' u u' es es' x xa x'
structure SF (P:Program) [Two P](ρ:Ren)(X:List Frame×List Frame)(w w':World)(f fa:World->GStep)(x':GStep):Prop where
 mir:rI w f
 rel:SR P ρ X w w' (f w) (fa w) x'
theorem Reach.refl {ρ:Ren}{w w':World}(S:br ρ w w'):Reach ρ ρ w w' w w':=⟨Ren.le_refl _,Chs.refl _ _ _,S,Keep.refl _ _,fun _a _b h=>.inl h,rfl,rfl,lR _,lR _⟩
def Same (w w':World):Prop:=∀i,w'.tape (w'.drawn+i)=w.tape (w.drawn+i)
theorem Same.draws {w w':World}(h:Same w w')(u:World):Draws w w' u:=fun i _=>h i
theorem cJ.trans {P:Program} [Two P]{ρ ρ':Ren}{X:List Frame×List Frame}{w w' u u':World}(R:Reach ρ ρ' w w' u u'){x x':GStep}(h:cJ P ρ' X u u' x x'):cJ P ρ X w w' x x':=by
 cases h with
 |go es ρ2 R2 h he=>exact .go es ρ2 (R.trans R2) h he
 |comm hC s hs hrun es ρ2 R2 h hc he ha=>exact .comm (by rw [<-R.le.F];exact hC) s hs hrun es ρ2 (R.trans R2) h hc he ha
 |spawn hC es ρ2 R2 h hk he=>exact .spawn (by rw [<-R.le.F];exact hC) es ρ2 (R.trans R2) h hk he
theorem SR.trans {P:Program} [Two P]{ρ ρ':Ren}{X:List Frame×List Frame}{w w' u u':World}(R:Reach ρ ρ' w w' u u'){x xa x':GStep}(h:SR P ρ' X u u' x xa x'):SR P ρ X w w' x xa x':=by
 rcases h with h|⟨h1,h2⟩|⟨f,ρ2,a,a',fr,fr',cs,cs',v,v',es,es',A⟩
 ·exact .inl h
 ·exact .inr (.inl ⟨h1,h2.trans R⟩)
 ·exact .inr (.inr ⟨f,ρ2,a,a',fr,fr',cs,cs',v,v',es,es',⟨by rw [<-R.le.F];exact A.mark,R.trans A.reach,A.args,A.frame,A.callers,A.kind,A.ev,A.here,A.other,A.there⟩⟩)
theorem SR.after {P:Program} [Two P]{ρ:Ren}{X:List Frame×List Frame}{w w':World}{x xa x':GStep}(h:SR P ρ X w w' x xa x')(E:Array Event){E':Array Event}(hE:∀ρ',ρ.le ρ'->∀e∈E',ie ρ' e):SR P ρ X w w' (GStep.after E x) (GStep.after E xa) (GStep.after E' x'):=by
 rcases h with ⟨h1,h2⟩|⟨h1,h2⟩|⟨f,ρ2,a,a',fr,fr',cs,cs',v,v',es,es',A⟩
 ·exact .inl ⟨h1.after _,h2.after _⟩
 ·exact .inr (.inl ⟨by rw [h1],h2.after _ hE⟩)
 ·refine .inr (.inr ⟨f,ρ2,a,a',fr,fr',cs,cs',v,v',E++es,E'++es',⟨A.mark,A.reach,A.args,A.frame,A.callers,A.kind,fun e he=>?_,by rw [A.here];rfl,by rw [A.other];rfl,by rw [A.there];rfl⟩⟩);rcases Array.mem_append.1 he with h|h
  ·exact hE ρ2 A.reach.le e h
  ·exact A.ev e h
theorem Reach.same {ρ ρ':Ren}{w w' u u':World}(R:Reach ρ ρ' w w' u u')(h:Same w w'):Same u u':=fun i=>by
 have h1:=h (u.drawn-w.drawn+i);have h2:=R.drawn;have h3:=R.low;rw [R.keep.tape,R.tape,show u'.drawn+i=w'.drawn+(u.drawn-w.drawn+i) by omega,h1,show w.drawn+(u.drawn-w.drawn+i)=u.drawn+i by omega]
section
variable {P:Program} [Two P] {ρ:Ren} {X:List Frame×List Frame} {w w':World}
theorem Ae {g g':Goroutine}(h:RGo P ρ X g g')(S:br ρ w w'):SF P ρ X w w' (fun u=>.go g u) (fun u=>.go g u) (.go g' w'):=
 ⟨ce _ _ _,.inr (.inl ⟨rfl,.go _ ρ (Reach.refl S) h (fun e he=>by simp at he)⟩)⟩
theorem iv {f fa:World->GStep}{x':GStep}(h:Lost (f w))(ha:Lost (fa w)):SF P ρ X w w' f fa x':=⟨iD _ _ h.noShp,.inl ⟨h,ha⟩⟩
theorem fO {f fa g ga:World->GStep}{x' y':GStep}(h:SF P ρ X w w' g ga y')(e:∀u,f u=g u)(ea:∀u,fa u=ga u)(ex:x'=y'):SF P ρ X w w' f fa x':=by
 have e1:f=g:=funext e;have e2:fa=ga:=funext ea;subst e1;subst e2;subst ex;exact h
theorem mh {α β:Type}{Q:Ren->α->β->Prop}{s:Sem α}{s':Sem β}(hs:RS P Q ρ s s')(S:br ρ w w')(hd:Same w w'){F Fa:Result α->Array Event->GStep}{F':Result β->Array Event->GStep}
  (hlost:∀h u es,dS h=true->Lost (F (.halt h u) es)/\Lost (Fa (.halt h u) es))
  (hok:∀ρ' u u' a b es es',Reach ρ ρ' w w' u u'->Q ρ' a b->(∀e∈es',ie ρ' e)->rI u (fun u=>F (.ok a u) es)/\SR P ρ X w w' (F (.ok a u) es) (Fa (.ok a u) es) (F' (.ok b u') es'))
  (hpan:∀ρ' u u' v v' es es',Reach ρ ρ' w w' u u'->RV ρ' v v'->(∀e∈es',ie ρ' e)->rI u (fun u=>F (.halt (.panic v) u) es)/\SR P ρ X w w' (F (.halt (.panic v) u) es) (Fa (.halt (.panic v) u) es) (F' (.halt (.panic v') u') es')):
  SF P ρ X w w' (fun u=>F (s.runT P u #[]).1 (s.runT P u #[]).2) (fun u=>Fa (s.runT P.alt u #[]).1 (s.runT P.alt u #[]).2) (F' (s'.runT P w' #[]).1 (s'.runT P w' #[]).2):=by
 obtain ⟨hm,hout⟩:=ou hs w w' #[] #[] S (hd.draws _);rcases hout with ⟨⟨h,u,hr,hn⟩,⟨ha,ua,hra,hna⟩⟩|⟨halt,ρ',l,S',hR,K,N,D,E,G,C⟩
 ·refine iv ?_ ?_
  ·simp only [hr];exact (hlost h u _ hn).1
  ·simp only [hra];exact (hlost ha ua _ hna).2
 ·obtain ⟨E0,hE1,hE2⟩:=E;have hev:∀e∈(s'.runT P w' #[]).2,ie ρ' e:=fun e he=>by rw [hE1] at he;exact hE2 e (by simpa using he)
  cases hr:s.runT P w #[] with
  |mk r es=>
   cases hr':s'.runT P w' #[] with
   |mk r' es'=>
    rw [hr] at hR S' D halt G C;rw [hr'] at hR S' D K hev C;simp only at hR S' D K hev G C;have key:rI w (fun u=>F (s.runT P u #[]).1 (s.runT P u #[]).2)/\SR P ρ X w w' (F r es) (Fa r es) (F' r' es'):=by
     cases hR with
     | @ok a b u u' h=>
      have R:Reach ρ ρ' w w' u u':=⟨l,C,S',K,N,D,by have:=hm.1;rw [hr] at this;exact this,by have:=hm.2.1;rw [hr] at this;exact this,G⟩;obtain ⟨k1,k2⟩:=hok ρ' u u' a b es es' R h hev;refine ⟨?_,k2⟩;intro x v es2 hx e;replace e:F (s.runT P w #[]).1 (s.runT P w #[]).2=x.mk v es2:=e;obtain ⟨h1,h2,h3⟩:=hm;rw [hr] at e h1 h2 h3;simp only [Result.w,Result.on] at e h1 h2 h3;obtain ⟨q1,q2,q3⟩:=k1 _ _ _ hx e;refine ⟨q1.trans h1,by omega,fun τ d hl=>?_⟩;have hm2:=h3 τ d (pX hl q2);simp only [hm2];have:=q3 τ (d+(u.drawn-w.drawn)) (nA hl h1 h2);simp only at this;rw [this];congr 2;omega
     | @halt a b u u' h=>
      have R:Reach ρ ρ' w w' u u':=⟨l,C,S',K,N,D,by have:=hm.1;rw [hr] at this;exact this,by have:=hm.2.1;rw [hr] at this;exact this,G⟩;cases h with
      |panic hv=>
       obtain ⟨k1,k2⟩:=hpan ρ' u u' _ _ es es' R hv hev;refine ⟨?_,k2⟩;intro x v es2 hx e;replace e:F (s.runT P w #[]).1 (s.runT P w #[]).2=x.mk v es2:=e;obtain ⟨h1,h2,h3⟩:=hm;rw [hr] at e h1 h2 h3;simp only [Result.w,Result.on] at e h1 h2 h3;obtain ⟨q1,q2,q3⟩:=k1 _ _ _ hx e;refine ⟨q1.trans h1,by omega,fun τ d hl=>?_⟩;have hm2:=h3 τ d (pX hl q2);simp only [hm2];have:=q3 τ (d+(u.drawn-w.drawn)) (nA hl h1 h2);simp only at this;rw [this];congr 2;omega
    refine ⟨key.1,?_⟩;simp only [hr,halt];exact key.2
theorem Ca {α β:Type}{Q:Ren->α->β->Prop}{s:Sem α}{s':Sem β}(hs:RS P Q ρ s s')(S:br ρ w w')(hd:Same w w'){f fa:World->GStep}{x':GStep}
  (hlost:∀h u es,dS h=true->(s.runT P w #[]=(.halt h u,es)->Lost (f w))/\(s.runT P.alt w #[]=(.halt h u,es)->Lost (fa w)))
  (hok:∀ρ' u u' a b es es',Reach ρ ρ' w w' u u'->Q ρ' a b->(∀e∈es',ie ρ' e)->s'.runT P w' #[]=(.ok b u',es') ->
   ∃x E,(∀z v,s.runT P z #[]=(.ok a v,es)->f z=Shp.mk x v E)/\(∀z v,s.runT P.alt z #[]=(.ok a v,es)->fa z=Shp.mk x v E)/\cJ P ρ X w w' (Shp.mk x u E) x')
  (hpan:∀ρ' u u' v v' es es',Reach ρ ρ' w w' u u'->RV ρ' v v'->(∀e∈es',ie ρ' e)->s'.runT P w' #[]=(.halt (.panic v') u',es') ->
   ∃x E,(∀z q,s.runT P z #[]=(.halt (.panic v) q,es)->f z=Shp.mk x q E)/\(∀z q,s.runT P.alt z #[]=(.halt (.panic v) q,es)->fa z=Shp.mk x q E)/\cJ P ρ X w w' (Shp.mk x u E) x'):
  SF P ρ X w w' f fa x':=by
 obtain ⟨hm,hout⟩:=ou hs w w' #[] #[] S (hd.draws _);rcases hout with ⟨⟨h,u,hr,hn⟩,⟨ha,ua,hra,hna⟩⟩|⟨halt,ρ',l,S',hR,K,N,D,E,G,C⟩
 ·refine iv ((hlost h u (s.runT P w #[]).2 hn).1 ?_) ((hlost ha ua (s.runT P.alt w #[]).2 hna).2 ?_)
  ·rw [<-hr]
  ·rw [<-hra]
 ·obtain ⟨E0,hE1,hE2⟩:=E;have hev:∀e∈(s'.runT P w' #[]).2,ie ρ' e:=fun e he=>by rw [hE1] at he;exact hE2 e (by simpa using he)
  cases hr:s.runT P w #[] with
  |mk r es=>
   cases hr':s'.runT P w' #[] with
   |mk r' es'=>
    rw [hr] at hR S' D halt G C;rw [hr'] at hR S' D K hev C;simp only at hR S' D K hev G C;have fin:∀ (x:Shp) (E:Array Event) (u:World),r.w=u->f w=x.mk u E->(∀τ d,Like w u τ d->f (w.on τ d)=x.mk (u.on τ (d+(u.drawn-w.drawn))) E)->rI w f:=by
     intro x E u hu h1 h2 y v es2 hy e;rw [h1] at e;obtain ⟨rfl,rfl,rfl⟩:=Shp.mk_inj e;have k1:=hm.1;have k2:=hm.2.1;rw [hr] at k1 k2;simp only [hu] at k1 k2;exact ⟨k1,k2,h2⟩
    have m3:=hm.2.2;rw [hr] at m3;cases hR with
    | @ok a b u u' h=>
     have R:Reach ρ ρ' w w' u u':=⟨l,C,S',K,N,D,by have:=hm.1;rw [hr] at this;exact this,by have:=hm.2.1;rw [hr] at this;exact this,G⟩;obtain ⟨x,E,q1,q2,q3⟩:=hok ρ' u u' a b es es' R h hev hr';refine ⟨fin x E u rfl (q1 w u hr) (fun τ d hl=>q1 _ _ (m3 τ d hl)),.inr (.inl ⟨?_,?_⟩)⟩
     ·rw [q1 w u hr,q2 w u halt]
     ·rw [q1 w u hr];exact q3
    | @halt a b u u' h=>
     have R:Reach ρ ρ' w w' u u':=⟨l,C,S',K,N,D,by have:=hm.1;rw [hr] at this;exact this,by have:=hm.2.1;rw [hr] at this;exact this,G⟩;cases h with
     |panic hv=>
      obtain ⟨x,E,q1,q2,q3⟩:=hpan ρ' u u' _ _ es es' R hv hev hr';refine ⟨fin x E u rfl (q1 w u hr) (fun τ d hl=>q1 _ _ (m3 τ d hl)),.inr (.inl ⟨?_,?_⟩)⟩
      ·rw [q1 w u hr,q2 w u halt]
      ·rw [q1 w u hr];exact q3
end
end
