/- A part. -/
import Derived.Test.YtnapepbdohidgaaGreatDoorQL02
import Derived.RunT
import Derived.Lone
set_option maxHeartbeats 4000000
set_option maxRecDepth 100000
open Go renaming World->Wj,Value->Wx,Goroutine->Wk,Program->Wv,TypeId->Ww,Frame->Wy,undef->Wo
namespace Go.Proofs.Qw
section
variable {P:Wv} [Two P] {ρ:Ren}
theorem cg {s s':Sem Wx}(h:RS P QV ρ s s'):RS P RX ρ (do let x <-s;pure (.value x)) (do let x <-s';pure (.value x)):=ah h (fun _ρ1 _ _v _v' hv=>aa (.value hv))
theorem zq {s s':Sem Unit}(h:RS P QU ρ s s'):RS P RX ρ (do s;pure .skip) (do s';pure .skip):=ah h (fun _ρ1 _ _ _ _=>aa .skip)
theorem tU (hS:ρ.F fK=true)(at_:Array Ww)(t:Ww){a a':Array Wx}(h:RVs ρ a a'):RS P QV ρ (Builtin.close_ at_ t a) (Builtin.close_ at_ t a'):=by
 obtain ⟨l⟩:=a;obtain ⟨l'⟩:=a';have hl:l.length=l'.length:=by simpa using h.size
 rcases l with - |⟨x,- |⟨y,l⟩⟩<;>rcases l' with - |⟨x',- |⟨y',l'⟩⟩<;>(try (simp at hl;done))
 .exact ae _
 .have hx:=h.at_ 0 x x' rfl rfl;cases hx with
  |chan hp=>exact Cd hS at_ t hp
  |_=>exact ae _
 .exact ae _
theorem xh (c:bM P)(e:GId P ρ)(b:Builtin)(hb:BZ ρ.F b=true)(at_:Array Ww)(d:Er P b at_=true)(t:Ww)(cs:Array Bool){a a':Array Wx}(h:RVs ρ a a'):RS P RX ρ (builtin b at_ t cs a) (builtin b at_ t cs a'):=by
 cases b<;>first
  |(exfalso;simp [BZ,okB] at hb;done)
  |exact cg (zf c at_ t h)
  |exact cg (F4 at_ d t h)
  |exact cg (Ch c at_ t h)
  |exact cg (tU (by simpa [BZ,okB] using hb) at_ t h)
  |exact cg (Ev at_ t h)
  |exact cg (F3 at_ d t h)
  |exact cg (F6 at_ t h)
  |exact cg (nf (e.free (by simpa [BZ,okB] using hb)) at_ t h)
def bV (P : Wv) : Prop := ∀ (f : FuncId) fn, P.funcs[f]? = some fn → fn.name ≠ "runtime.NumGoroutine"
theorem zr (i:bM P)(j:fD P ρ.F)(d:bV P)(c:GId P ρ){t t':Target}(ht:RT ρ t t'){a a':Array Wx}(h:RVs ρ a a'):RS P RX ρ (invoke t a) (invoke t' a'):=by
 unfold invoke;cases ht with
 |nil=>exact eR
 |builtin b hb at_ ha t cs=>exact xh i c b hb at_ (by rw [<-c.prog];exact ha) t cs h
 |fn hf hc=>
  cases hf with
  |func f e=>exact tN j c f e (d f) (h.append hc)
  |yield hl=>exact Cl hl h
 |collected _=>exact ae _
theorem jz {α : Type} {n : Ww} (hn : NoM P n) {f : TypeInfo → Sem α} (h : ∀ i, i.methods.find? (fun m => m.name == "") = none → cZ P (f i)) : cZ P (typeInfo n >>= f) := by
 unfold typeInfo;refine .program (fun p hp=>?_)
 show cZ P (Sem.bind (match p.info? n with | some i => Pure.pure i | none => stuck "no such type") _)
 have e:p.info? n=P.info? n:=by
  obtain ⟨t,fs⟩:=p;simp only at hp;subst hp;rfl
 rw [e];cases hi:P.info? n with
 |none=>exact .halt rfl
 |some i=>exact h i (by unfold NoM at hn;rw [hi] at hn;simpa using hn)
theorem tV {n : Ww} (hn : NoM P n) (fuel : Nat) (v : Wx) : cZ P (method fuel n v "") := by
 cases fuel with
 |zero=>exact .halt rfl
 |succ fuel=>
  unfold method;exact jz hn (fun i hi=>by simp only [hi];exact .halt rfl)
theorem pJ {n : Ww} (hn : NoM P n) (fuel : Nat) (v : Wx) {α : Type} (f : Option Bool → Sem α) (h0 : cZ P (f none)) : cZ P (nilAhead fuel n v "" >>= f) := by
 cases fuel with
 |zero=>exact h0
 |succ fuel=>
  unfold nilAhead;exact (jz hn (fun i hi=>by simp only [hi];exact .halt rfl)).bind f
theorem km (f:bM P)(j:fD P ρ.F)(i:bV P)(b:GId P ρ){d d':Deferred}(h:RD ρ d d'):RS P RX ρ (invoke d.target d.args) (invoke d'.target d'.args):=by
 cases h with
 |mk h1 h2=>exact zr f j i b h1 h2
 |odd n v a s c a' hn=>
  refine .lost ?_ _;have hb:=ρ.noM;rw [b.prog,<-hn] at hb;have e:(#[Value.iface n v]++a)[0]?=some (.iface n v):=by
   rw [Array.getElem?_append_left (by simp)];rfl
  unfold invoke;simp only [e];exact .program (fun p hp=>(tV hb _ _).bind _)
theorem mm (e:Ww)(s:ByteArray):RS P QV ρ (Conv.stringToRunes e s) (Conv.stringToRunes e s):=by
 have d:∀ (b i:Nat) (c:Array Wx),RVs ρ c c->∀ρ',ρ.le ρ'->RVs ρ' (Conv.runesFrom s b i c) (Conv.runesFrom s b i c):=by
  intro b;induction b with
  |zero=>intro i c h ρ' l;exact h.mono l
  |succ b ih=>
   intro i c h ρ' l;unfold Conv.runesFrom;split
   .exact ih _ _ (h.push (.int _ _)) ρ' l
   .exact h.mono l
 unfold Conv.stringToRunes;refine ag (db _) (fun f l1 cap=>?_);refine ah (dO e (RVs.append (d _ _ _ RVs.nil f l1) (RVs.self (fun i v h=>?_)))) (fun ρ2 l2 a a' ha=>aa (.slice _ _ (.some ha)));rw [Array.getElem?_replicate] at h;split at h
 .cases h;exact .int _ _
 .cases h
theorem ng {α:Type}(t:Ww){f:TypeDesc->Sem α}(h:∀d,cZ P (f d)):cZ P (underlying t >>= f):=by
 unfold underlying;refine .program (fun p _=>?_)
 show cZ P (Sem.bind (match p.underlying t with | some i => Pure.pure i | none => stuck "no such type") _)
 cases p.underlying t with
 |none=>exact .halt rfl
 |some d=>exact h d
theorem xi (a b:Ww)(ho:yX P a b=true){x x':Wx}(hx:RV ρ x x'):RS P QV ρ (convert a b x) (convert a b x'):=by
 unfold convert;refine ah (aT a) (fun ρ1 l1 e ds' hs=>?_);obtain ⟨rfl,hs⟩:=hs;refine ah (aT b) (fun ρ2 l2 f dd' hd=>?_);obtain ⟨rfl,hd⟩:=hd;unfold yX at ho;rw [hs,hd] at ho;have hx2:=(hx.mono l1).mono l2;have hx0:=hx2;cases e<;>cases f<;>(try (exfalso;revert ho;simp;done))
 .cases hx2 with
  |int k n=>exact aa (.int _ _)
  |pointer h=>cases h<;>exact aj _
  |_=>exact aj _
 .cases hx2 with
  |int k n=>exact aa (.string _)
  |string s=>exact aa (.string _)
  |_=>exact aj _
 .cases hx2 with
  |string s=>
   refine ag (ao _) (fun i l3 d=>?_);cases d with
   |int k=>cases k<;>first|exact ae _|exact mi _ _|exact mm _ _
   |_=>exact ae _
  |slice n c h=>cases h<;>exact aj _
  |_=>exact aj _
 .cases hx2 with
  |int k n=>exact aa (.string _)
  |string s=>exact aa (.string _)
  |dead _ _=>
   refine .lost (ng _ (fun d=>?_)) _;cases d with
   |int k=>cases k<;>exact .halt rfl
   |_=>exact .halt rfl
  |_=>
   refine ag (ao _) (fun i l3 d=>?_);cases d with
   |int k=>cases k<;>first|exact ae _|exact mj (P:=P) (hx0.mono l3)|exact ml (P:=P) (hx0.mono l3)
   |_=>exact ae _
end
section
variable {P:Wv} {ρ:Ren}
theorem tW {v:Wx}(h:mc v=true):RV ρ v v:=by
 cases v with
 |pointer a=>cases a with|none=>exact .pointer .none|some a=>simp [mc] at h
 |slice a n c=>cases a with|none=>exact .slice _ _ .none|some a=>simp [mc] at h
 |map a=>cases a with|none=>exact .map .none|some a=>simp [mc] at h
 |chan a=>cases a with|none=>exact .chan .none|some a=>simp [mc] at h
 |bool b=>exact .bool b
 |int k n=>exact .int k n
 |string s=>exact .string s
 |nilFunc=>exact .nilFunc
 |nilIface=>exact .nilIface
 |_=>simp [mc] at h
theorem zt {c:Array Wx}(h:c.all mc=true):RVs ρ c c:=RVs.self (fun i v hv=>tW (by
 have:=Array.all_eq_true.1 h;obtain ⟨a,rfl⟩:=eS hv;exact this i a))
theorem zu {v:Wx}(h:mP v=true):RV ρ v v:=by
 cases v with
 |agg c=>exact .agg rfl (zt h).at_
 |tuple c=>exact .tuple rfl (zt h).at_
 |iface t v=>exact .iface t (tW h)
 |_=>exact tW h
def BS (P:Wv)(ρ:Ren)(e e':Operand->Wx):Prop:=∀x,okX P ρ.F x=true->RV ρ (e x) (e' x)
theorem BS.all {e e':Operand->Wx}(h:BS P ρ e e'){a:Array Operand}(ha:a.all (okX P ρ.F)=true):RVs ρ (a.map e) (a.map e'):=by
 refine ⟨by simp,fun i v v' h1 h2=>?_⟩;rw [Array.getElem?_map] at h1 h2;cases hx:a[i]? with
 |none=>rw [hx] at h1;cases h1
 |some x=>
  rw [hx] at h1 h2;cases h1;cases h2;obtain ⟨b,rfl⟩:=eS hx;exact h _ (Array.all_eq_true.1 ha i b)
theorem BS.parts {e e':Operand->Wx}(h:BS P ρ e e'):∀ (l:List (Nat×Operand)),(∀p∈l,okX P ρ.F p.2=true)->RPs ρ (l.map (fun p=>(p.1,e p.2))) (l.map (fun p=>(p.1,e' p.2))):=by
 intro l;induction l with
 |nil=>intro _;exact .nil
 |cons p l ih=>intro hp;exact .cons p.1 (h _ (hp p (List.mem_cons_self ..))) (ih (fun q hq=>hp q (List.mem_cons_of_mem _ hq)))
theorem BS.partsA {e e':Operand->Wx}(h:BS P ρ e e'){a:Array (Nat×Operand)}(ha:a.all (fun p=>okX P ρ.F p.2)=true):RPs ρ (a.map (fun (i,x)=>(i,e x))).toList (a.map (fun (i,x)=>(i,e' x))).toList:=by
 simp only [Array.toList_map];refine h.parts a.toList (fun p hp=>?_);have:=Array.all_eq_true.1 ha;obtain ⟨i,b,rfl⟩:=List.mem_iff_getElem.1 hp;simpa using this i (by simpa using b)
theorem tX {e e':Operand->Wx}(h:BS P ρ e e'){o:Option Operand}(ho:o.all (okX P ρ.F)=true):(∀v v',o.map e=some v->o.map e'=some v'->RV ρ v v')/\(o.map e).isSome=(o.map e').isSome:=by
 cases o with
 |none=>exact ⟨fun v v' h=>by simp at h,rfl⟩
 |some x=>exact ⟨fun v v' h1 h2=>by simp at h1 h2;subst h1;subst h2;exact h x ho,rfl⟩
variable [Two P]
theorem iI (a:GId P ρ){e e':Operand->Wx}(he:BS P ρ e e')(c:Call)(hc:jy P ρ.F c=true)(t:Ww):RS P (fun ρ d d'=>RD ρ d d') ρ (resolve e c t) (resolve e' c t):=by
 unfold resolve;unfold jy at hc;rw [bT] at hc;have ha:=he.all hc.2;cases hk:c.callee with
 |builtin b=>
  rw [hk] at hc;have hb:=hc.1;rw [bT] at hb;exact aa (.mk (.builtin _ hb.1 _ (by rw [a.prog];exact hb.2) _ _) ha)
 |value f=>
  rw [hk] at hc;have hf:=he f hc.1;exact oi hf ha
 |invoke r n=>rw [hk] at hc;simp at hc
theorem zv (B:bM P)(J:fD P ρ.F)(H:bV P)(z:GId P ρ){e e':Operand->Wx}(he:BS P ρ e e')(hf1:∀f,e (.func f)=.func (.func f) #[] #[])(hf2:∀f,e' (.func f)=.func (.func f) #[] #[])(I:∀x,Es x=true->BR (e x)=true)(o:Oper)(ho:fH P ρ.F o.op=true)(A:D1 o.op=false):RS P RX1 ρ (execOp e o) (execOp e' o):=by
 have j:∀ {x x':Sem Next},RS P RX ρ x x'->RS P RX1 ρ x x':=fun h=>h.imp (fun _ _ _ k=>.of k)
 unfold execOp;cases l:o.op with
 |move x=>rw [l] at ho;exact aa (.of <| .value (he x ho))
 |assign x=>rw [l] at ho;exact aa (.of <| .value (he x ho))
 |pick c a b=>
  rw [l] at ho;simp only [fH,bT] at ho;refine ag (qR (he c ho.1.1)) (fun E l1 x=>aa (.of <| .value ?_));cases x
  .exact (he b ho.2).mono l1
  .exact (he a ho.1.2).mono l1
 |alloc t=>exact j <|cg (B8 B t)
 |box t x=>rw [l] at ho;exact j <|cg (F2 t (he x ho))
 |build t ps=>rw [l] at ho;exact j <|cg (Ck B t (he.partsA ho))
 |buildSlice t n ps=>rw [l] at ho;exact j <|cg (pC B t n (he.partsA ho))
 |load t a=>rw [l] at ho;exact j <|cg (ze t (he a ho))
 |store t a x=>rw [l] at ho;simp only [fH,bT] at ho;exact j <|zq (wO t (he a ho.1) (he x ho.2))
 |nilCheck x=>
  rw [l] at ho;have hx:=he x ho;have hx0:=hx;simp only;generalize e x=v at hx hx0;generalize e' x=v' at hx hx0;cases hx with
  |pointer h=>cases h with|none=>exact eR|some h=>exact aa (.of <| .value hx0)
  |nilIface=>exact eR
  |nilFunc=>exact eR
  |func hf h1 h2 k1 k2=>cases hf<;>exact aa (.of <| .value hx0)
  |odd n s a c hn=>
   have hb:=ρ.noM;rw [z.prog,<-hn] at hb;exact .lost (.program (fun p hp=>pJ hb _ _ _ (.halt rfl))) _
  |dead _ h=>
   cases v' with
   |pointer a=>cases a<;>first|exact aa (.of <| .value hx0)|(simp [gQ] at h;done)
   |func f a c=>cases f<;>first|exact aa (.of <| .value hx0)|(simp [gQ] at h;done)
   |slice a n c=>exact aa (.of <| .value hx0)
   |map a=>exact aa (.of <| .value hx0)
   |chan a=>exact aa (.of <| .value hx0)
   |iface t v=>exact aa (.of <| .value hx0)
   |float k b=>exact aa (.of <| .value hx0)
   |complex k a b=>exact aa (.of <| .value hx0)
   |tuple a=>exact aa (.of <| .value hx0)
   |_=>simp [gQ] at h
  |_=>exact aa (.of <| .value hx0)
 |binOp D t x y u=>
  rw [l] at ho;simp only [fH,bT] at ho;have hx:=he x ho.1.1;have hy:=he y ho.1.2;refine j <|cg (ah (wU D t x y hx hy) (fun E l1 _ _ _=>?_))
  refine Cj (z.mono l1) D t (hx.mono l1) (hy.mono l1) (fun C=>?_);have hE2:=ho.2;have G:gG (P.underlying t)=true\/Es x=true\/Es y=true\/tC P 6 t=true:=by
   rcases C with rfl|rfl<;>simpa [Hd,Bool.or_eq_true,or_assoc] using hE2
  rcases G with h|h|h|h
  .exact iH _ (z.mono l1) t (hx.mono l1) (hy.mono l1) (.inl h)
  .refine iH _ (z.mono l1) t (hx.mono l1) (hy.mono l1) (.inr (.inl ?_));exact I x h
  .refine iH _ (z.mono l1) t (hx.mono l1) (hy.mono l1) (.inr (.inr ?_));exact I y h
  .exact zo _ 6 (z.mono l1) t (hx.mono l1) (hy.mono l1) h
 |unOp D t x=>rw [l] at ho;exact j <|cg (Cg D (he x ho))
 |convert s d x=>rw [l] at ho;simp only [fH,bT] at ho;exact j <|cg (xi s d ho.1 (he x ho.2))
 |makeInterface t x=>rw [l] at ho;exact j <|cg (mg t (he x ho))
 |makeFunc f a c=>
  rw [l] at ho;cases f with
  |func f=>simp only [fH,bT] at ho;exact j <|cg (tH (.func f ho.1.1) (he.all ho.1.2) (he.all ho.2))
  |_=>simp [fH] at ho
 |makeChan t x=>rw [l] at ho;simp only [fH,bT] at ho;exact j <|cg (tI ho.1 t (he x ho.2))
 |makeSlice t a x=>rw [l] at ho;simp only [fH,bT] at ho;exact j <|cg (qS B t (he a ho.1) (he x ho.2))
 |slice t x lo hi mx=>
  rw [l] at ho;simp only [fH,bT] at ho;have h1:=tX he ho.1.1.2;have h2:=tX he ho.1.2;have h3:=tX he ho.2;exact j <|cg (wS t (he x ho.1.1.1) h1.1 h2.1 h3.1 h1.2 h2.2 h3.2)
 |fieldAddr s x f=>rw [l] at ho;exact j <|cg (wR s (he x ho) f)
 |field t x f=>rw [l] at ho;exact j <|cg (B9 t (he x ho) f)
 |indexAddr t x i=>rw [l] at ho;simp only [fH,bT] at ho;exact j <|cg (wQ t (he x ho.1) (he i ho.2))
 |index t x i=>rw [l] at ho;simp only [fH,bT] at ho;exact j <|cg (Ca t (he x ho.1) (he i ho.2))
 |extract x i=>rw [l] at ho;exact j <|cg (wP (he x ho) i)
 |call c=>
  rw [l] at ho;rcases wI ho with hc|⟨f,hk,h1,h2,h3⟩
  rotate_left
  .have r1:∀ (q:Operand->Wx),q (.func f)=.func (.func f) #[] #[]->(do let d <-resolve q c o.type;invoke d.target d.args:Sem Next)=callFunc f (c.args.map q):=fun q hq=>by
    unfold resolve;simp only [hk,hq];show invoke (.fn (.func f) #[]) (#[]++c.args.map q)=_;unfold invoke;simp
   show RS P RX1 ρ (do let d <-resolve e c o.type;invoke d.target d.args) (do let d <-resolve e' c o.type;invoke d.target d.args);rw [r1 e (hf1 f),r1 e' (hf2 f)];exact zk z f h1 (H f) (he.all h2) (by rw [Array.size_map];exact h3)
  refine j ?_;exact ah (iI z he c hc o.type) (fun E l1 d d' hd=>km B (by rw [l1.F];exact J) H (z.mono l1) hd)
 |go c=>
  rw [l] at ho;simp only [fH,bT] at ho;refine j ?_;exact ah (iI z he c ho.2 o.type) (fun E l1 d d' hd=>aa (.spawn (by rw [l1.F];exact ho.1) hd))
 |defer c=>
  rw [l] at ho;simp only [fH] at ho;rw [bT] at ho;refine j ?_;exact ah (iI z he c ho.2 o.type) (fun E l1 d d' hd=>aa (.defer (by rw [l1.F];exact ho.1) hd))
 |send c x=>rw [l] at A;cases A
 |recv t c ok=>rw [l] at A;cases A
 |lookup t x i ok=>rw [l] at ho;simp only [fH,bT] at ho;exact j <|cg (zp B t ho.1.1 (he x ho.1.2) (he i ho.2) ok)
 |mapUpdate t m k x=>rw [l] at ho;simp only [fH,bT] at ho;exact j <|zq (qX t ho.1.1.1 (he m ho.1.1.2) (he k ho.1.2) (he x ho.2))
 |makeMap t r=>
  rw [l] at ho;cases r with
  |none=>exact j <|cg (wZ t)
  |some _=>simp [fH] at ho
 |panic x=>rw [l] at ho;exact j <|cg (Cm (he x ho))
 |_=>rw [l] at ho;simp [fH] at ho
end
inductive RI (P:Wv)(ρ:Ren):Item->Item->Prop
 |code {c:Code} (h:aG P ρ.F c=true):RI P ρ (.code c) (.code c)
 |inBlock (id:Nat):RI P ρ (.inBlock id) (.inBlock id)
 |inLoop {c:Code} (h:aG P ρ.F c=true):RI P ρ (.inLoop c) (.inLoop c)
 |inScope {c:Code} (h:aG P ρ.F c=true):RI P ρ (.inScope c) (.inScope c)
 |inRegion {ops:Array Oper} (l:List Nat) (h:ops.all (fun o=>fH P ρ.F o.op)=true):RI P ρ (.inRegion ops l) (.inRegion ops l)
 |regionEnd (ops ops':Array Oper):RI P ρ (.inRegion ops []) (.inRegion ops' [])
 |inRangeFunc {l l':Nat} (h:ρ l l'):RI P ρ (.inRangeFunc l) (.inRangeFunc l')
 |endRangeFunc {l l':Nat} (h:ρ l l'):RI P ρ (.endRangeFunc l) (.endRangeFunc l')
 |beginRound:RI P ρ .beginRound .beginRound
inductive RIs (P:Wv)(ρ:Ren):List Item->List Item->Prop
 |nil:RIs P ρ [] []
 |cons {i i':Item} {l l':List Item} (h:RI P ρ i i') (hl:RIs P ρ l l'):RIs P ρ (i::l) (i'::l')
inductive RPn (ρ:Ren):List PanicEntry->List PanicEntry->Prop
 |nil:RPn ρ [] []
 |cons {v v':Wx} (r g:Bool) {l l':List PanicEntry} (h:RV ρ v v') (hl:RPn ρ l l'):RPn ρ ({v,recovered:=r,goexit:=g} :: l) ({v:=v',recovered:=r,goexit:=g} :: l')
inductive RM (ρ:Ren):FrameMode->FrameMode->Prop
 |run:RM ρ .run .run
 |returning:RM ρ .returning .returning
 |panicking {l l':List PanicEntry} (h:RPn ρ l l'):RM ρ (.panicking l) (.panicking l')
structure RFr (P:Wv)(ρ:Ren)(fr fr':Wy):Prop where
 fn:fr.fn=fr'.fn
 tmps:RVs ρ fr.tmps fr'.tmps
 todo:RIs P ρ fr.todo fr'.todo
 defers:RDs ρ fr.defers fr'.defers
 mode:RM ρ fr.mode fr'.mode
 early:(fr.kind == .early)=false/\(fr'.kind == .early)=false/\fr'.kind≠.report
 round:RNo ρ fr.roundOf fr'.roundOf
def Kd (X:List Wy×List Wy)(fr fr':Wy)(a:List Wy):Prop:=(a≠X.2\/2<=X.1.length->fr.kind=fr'.kind)/\(a=X.2->fr.roundOf=none)
inductive RFs (P:Wv)(ρ:Ren)(X:List Wy×List Wy):List Wy->List Wy->Prop
 |base:RFs P ρ X X.1 X.2
 |cons {f f':Wy} {l l':List Wy} (h:RFr P ρ f f') (hk:Kd X f f' l') (hl:RFs P ρ X l l'):RFs P ρ X (f::l) (f'::l')
theorem cW {ρ:Ren}:RV ρ Wo Wo:=.tuple rfl (fun i v v' e=>by simp at e)
section
variable {P:Wv} {ρ ρ':Ren}
theorem RI.mono (hle:ρ.le ρ'){i i':Item}(h:RI P ρ i i'):RI P ρ' i i':=by
 cases h with
 |code h=>exact .code (by rw [hle.F];exact h)
 |inBlock id=>exact .inBlock id
 |inLoop h=>exact .inLoop (by rw [hle.F];exact h)
 |inScope h=>exact .inScope (by rw [hle.F];exact h)
 |inRegion l h=>exact .inRegion l (by rw [hle.F];exact h)
 |regionEnd a b=>exact .regionEnd a b
 |inRangeFunc h=>exact .inRangeFunc (hle _ _ h)
 |endRangeFunc h=>exact .endRangeFunc (hle _ _ h)
 |beginRound=>exact .beginRound
theorem RIs.mono (hle:ρ.le ρ'){l l':List Item}(h:RIs P ρ l l'):RIs P ρ' l l':=by
 induction h with
 |nil=>exact .nil
 |cons h _ ih=>exact .cons (h.mono hle) ih
theorem RPn.mono (hle:ρ.le ρ'){l l':List PanicEntry}(h:RPn ρ l l'):RPn ρ' l l':=by
 induction h with
 |nil=>exact .nil
 |cons r g h _ ih=>exact .cons r g (h.mono hle) ih
theorem RM.mono (hle:ρ.le ρ'){m m':FrameMode}(h:RM ρ m m'):RM ρ' m m':=by
 cases h with
 |run=>exact .run
 |returning=>exact .returning
 |panicking h=>exact .panicking (h.mono hle)
theorem RFr.mono (hle:ρ.le ρ'){f f':Wy}(h:RFr P ρ f f'):RFr P ρ' f f':=⟨h.fn,h.tmps.mono hle,h.todo.mono hle,h.defers.mono hle,h.mode.mono hle,h.early,h.round.mono hle⟩
theorem RFs.mono {X:List Wy×List Wy}(hle:ρ.le ρ'){l l':List Wy}(h:RFs P ρ X l l'):RFs P ρ' X l l':=by
 induction h with
 |base=>exact .base
 |cons h hk _ ih=>exact .cons (h.mono hle) hk ih
theorem RVs.getD {c c':Array Wx}(h:RVs ρ c c')(i:Nat):RV ρ (c.getD i Wo) (c'.getD i Wo):=by
 rcases h.get i with ⟨h1,h2⟩|⟨v,v',h1,h2,hv⟩
 .simp only [gD,h1,h2,Option.getD_none];exact cW
 .simp only [gD,h1,h2,Option.getD_some];exact hv
theorem RFr.finish {f f':Wy}(h:RFr P ρ f f'){v v':Wx}(hv:RV ρ v v'):RFr P ρ (f.finish v) (f'.finish v'):=by
 unfold Frame.finish;have ht:=h.todo;generalize hx:f.todo=td at ht;generalize hx':f'.todo=td' at ht;cases ht with
 |nil=>exact h
 |cons a hk=>
  cases a with
  |inRegion l ho=>
   cases l with
   |nil=>exact h
   |cons j l=>
    refine ⟨h.fn,?_,.cons (.inRegion l ho) hk,h.defers,h.mode,h.early,h.round⟩;dsimp only;split
    .exact h.tmps.set _ hv
    .exact h.tmps
  |inRangeFunc hl=>exact ⟨h.fn,h.tmps,.cons (.endRangeFunc hl) hk,h.defers,h.mode,h.early,h.round⟩
  |beginRound=>exact ⟨h.fn,h.tmps,hk,h.defers,h.mode,h.early,h.round⟩
  |_=>exact h
variable [Two P]
theorem RFr.env (hg:GId P ρ){f f':Wy}(h:RFr P ρ f f'):BS P ρ f.eval f'.eval:=by
 intro x hx;cases x with
 |tmp t=>exact h.tmps.getD t
 |const v=>exact zu hx
 |global g=>exact .pointer (.some ⟨hg.glob g (of_decide_eq_true hx),rfl,rfl⟩)
 |func f=>exact .func (.func f hx) rfl rfl (fun i v v' e=>by simp at e) (fun i v v' e=>by simp at e)
theorem RFr.enter (c:GId P ρ)(f:FuncId)(d:ρ.F f=true)(k:CallKind)(hk:(k == .early)=false)(hk2:k≠.report){a a':Array Wx}(h:RVs ρ a a'):RFr P ρ (Frame.enter P f a k) (Frame.enter P f a' k):=by
 refine ⟨rfl,?_,.cons (.code ?_) .nil,.nil,.run,⟨hk,hk,hk2⟩,.none⟩
 .show RVs ρ (a++Array.replicate _ Wo) (a'++Array.replicate _ Wo);rw [h.size];refine h.append (RVs.self (fun i v e=>?_));rw [Array.getElem?_replicate] at e;split at e
  .cases e;exact cW
  .cases e
 .cases hf:P.funcs[f]? with
  |none=>rfl
  |some fn=>
   cases hb:fn.body with
   |none=>simp [hb,aG]
   |some b=>simpa [hb] using c.code f fn b d hf hb
theorem qZ (b:GId P ρ)(f:FuncId)(c:ρ.F f=true)(k:CallKind)(a:Array Wx):Frame.enter P.alt f a k=Frame.enter P f a k:=by
 unfold Frame.enter;rw [b.alt f c]
end
theorem RFs.len {P:Wv}{ρ:Ren}{X:List Wy×List Wy}{l l':List Wy}(h:RFs P ρ X l l'):X.2.length<=l'.length:=by
 induction h with
 |base=>exact lR _
 |cons _ _ _ ih=>simp only [lC];omega
theorem RFs.ne {P:Wv}{ρ:Ren}{X:List Wy×List Wy}{l l':List Wy}{f':Wy}(h:RFs P ρ X l l'):f'::l'≠X.2:=fun e=>by
 have:=h.len;rw [<-e] at this;simp at this;omega
theorem zw (fr:Wy):∀x,Es x=true->BR (fr.eval x)=true:=fun x h=>by
 cases x with
 |const v=>exact h
 |_=>simp [Es] at h
inductive Shp where
 |go (g:Wk)
 |comm (g:Wk) (cs:Array CommCase) (b:Bool) (s:CommShape)
 |spawn (g k:Wk)
def Shp.mk:Shp->Wj->Array Event->GStep
 | .go g,w,es=>.go g w es
 | .comm g cs b s,w,es=>.comm g cs b s w es
 | .spawn g k,w,es=>.spawn g k w es
def Shp.ok:Shp->Prop
 | .go g=>g.dying=none
 |_=>True
theorem Shp.mk_inj {x y:Shp}{w w':Wj}{es es':Array Event}(h:x.mk w es=y.mk w' es'):x=y/\w=w'/\es=es':=by
 cases x<;>cases y<;>simp [Shp.mk] at h<;>obtain ⟨h1,h2⟩:=h<;>simp_all
theorem Shp.mk_after (x:Shp)(w:Wj)(E es:Array Event):GStep.after E (x.mk w es)=x.mk w (E++es):=by cases x<;>rfl
def tz (w:Wj)(f:Wj->GStep):Prop:=
 ∀x w' es,Shp.ok x->f w=x.mk w' es->w'.tape=w.tape/\w.drawn<=w'.drawn/\∀τ d,Like w w' τ d->f (w.on τ d)=x.mk (w'.on τ (d+(w'.drawn-w.drawn))) es
theorem kn (w:Wj)(x:Shp)(es:Array Event):tz w (fun u=>x.mk u es):=by
 intro y w' es' _ h;obtain ⟨rfl,rfl,rfl⟩:=Shp.mk_inj h;exact ⟨rfl,lR _,fun τ d _=>by simp⟩
theorem cE (w:Wj)(g:Wk)(es:Array Event):tz w (fun u=>.go g u es):=kn w (.go g) es
def noShp (x:GStep):Prop:=∀y w' es,Shp.ok y->x≠Shp.mk y w' es
theorem iZ (w:Wj)(f:Wj->GStep)(h:noShp (f w)):tz w f:=fun x w' es ho e=>absurd e (h x w' es ho)
theorem zy {E:Array Event}{s:GStep}{x:Shp}{w':Wj}{es:Array Event}(h:GStep.after E s=x.mk w' es):∃es',s=x.mk w' es'/\es=E++es':=by
 cases s<;>cases x<;>simp [GStep.after,Shp.mk] at h ⊢
 all_goals
  first
  |(obtain ⟨rfl,rfl,rfl⟩:=h;exact ⟨_,⟨rfl,rfl,rfl⟩,rfl⟩)
  |(obtain ⟨rfl,rfl,rfl,rfl⟩:=h;exact ⟨_,⟨rfl,rfl,rfl,rfl⟩,rfl⟩)
  |(obtain ⟨rfl,rfl,rfl,rfl,rfl,rfl⟩:=h;exact ⟨_,⟨rfl,rfl,rfl,rfl,rfl,rfl⟩,rfl⟩)
theorem aO {w:Wj}{f:Wj->GStep}(E:Array Event)(h:tz w f):tz w (fun u=>GStep.after E (f u)):=by
 intro x w' es hd e;obtain ⟨es',h1,rfl⟩:=zy e;obtain ⟨k1,k2,k3⟩:=h _ _ _ hd h1;exact ⟨k1,k2,fun τ d hl=>by simp only [k3 τ d hl,Shp.mk_after]⟩
theorem q8 {w u w':Wj}{τ:Nat->Question->Nat}{d:Nat}(hl:Like w w' τ d)(h:u.drawn<=w'.drawn):Like w u τ d:=fun i hi=>hl i (by omega)
theorem ol {w u w':Wj}{τ:Nat->Question->Nat}{d:Nat}(hl:Like w w' τ d)(ht:u.tape=w.tape)(h:w.drawn<=u.drawn):Like u w' τ (d+(u.drawn-w.drawn)):=fun i hi=>by
 have:=hl (u.drawn-w.drawn+i) (by omega);rw [show d+(u.drawn-w.drawn)+i=d+(u.drawn-w.drawn+i) by omega,this,ht,show w.drawn+(u.drawn-w.drawn+i)=u.drawn+i by omega]
theorem fq (p:Wv)(f:FuncId):seen p f #[]=#[]:=rfl
theorem cn (x:GStep):GStep.after #[] x=x:=by cases x<;>simp [GStep.after]
theorem Cn {p:Wv}{fr:Wy}{callers:List Wy}{dying:Option Dying}{s:Sem Next}{w u:Wj}{a:Next}{es:Array Event}(h:s.runT p w #[]=(.ok a u,es)):
  stepG.apply p true fr callers dying s w=GStep.after (seen p fr.fn (if fr.kind == .early then #[] else es)) (stepG.apply p true fr callers dying (.pure a) u):=by
 unfold stepG.apply;simp only [if_true,h,Sem.runT];have e:seen p fr.fn (if fr.kind == .early then #[] else #[])=#[]:=by split<;>exact fq _ _
 rw [e,cn]
def q9 (a:Halt)(es:Array Event):Array Event:=
 match a with
 | .blocked=>#[]
 | .waiting=>#[]
 | .unsupported (.initOrder _)=>#[]
 |_=>es
theorem xj {p:Wv}{fr:Wy}{callers:List Wy}{dying:Option Dying}{s:Sem Next}{w u:Wj}{a:Halt}{es:Array Event}(h:s.runT p w #[]=(.halt a u,es)):
  stepG.apply p true fr callers dying s w=GStep.after (seen p fr.fn (if fr.kind == .early then #[] else q9 a es)) (stepG.apply p true fr callers dying (.halt a) u):=by
 have e:seen p fr.fn (if fr.kind == .early then #[] else #[])=#[]:=by split<;>exact fq _ _
 unfold stepG.apply;simp only [if_true,h,Sem.runT];cases a with
 |unsupported x=>cases x<;>simp only [q9,e,cn]
 |_=>simp only [q9,e,cn]
theorem dP {p:Wv}{f:FuncId}{es:Array Event}{e:Event}(h:e∈seen p f es):e∈es:=by
 unfold seen at h;simp only [<-Array.foldl_toList] at h;have b:∀ (l:List Event) (q:Bool) (a:Array Event),e∈(l.foldl (fun (x:Bool×Array Event) e=>match e.loc with
   | .mark (.extern f)=>((p.funcs[f]?).any (·.norace),x.2)
   |_=>(x.1,if x.1 && !e.sync then x.2 else x.2.push e)) (q,a)).2->e∈a\/e∈l:=by
  intro l;induction l with
  |nil=>intro q a h;exact .inl h
  |cons y l ih=>
   intro q a h;simp only [List.foldl_cons] at h;split at h
   .rcases ih _ _ h with h|h
    .exact .inl h
    .exact .inr (List.mem_cons_of_mem _ h)
   .rcases ih _ _ h with h|h
    .split at h
     .exact .inl h
     .rcases Array.mem_push.1 h with h|h
      .exact .inl h
      .exact .inr (h▸List.mem_cons_self ..)
    .exact .inr (List.mem_cons_of_mem _ h)
 rcases b _ _ _ h with h|h
 .simp at h
 .simpa using h
structure Reach (ρ ρ':Ren)(w w' u u':Wj):Prop where
 le:ρ.le ρ'
 chs:Chs ρ w w' u u'
 sim:bI ρ' u u'
 keep:Keep ρ w' u'
 new:∀a b,ρ' a b->ρ a b\/(w.heap.size<=a/\w'.heap.size<=b)
 drawn:u'.drawn+w.drawn=w'.drawn+u.drawn
 tape:u.tape=w.tape
 low:w.drawn<=u.drawn
 grow:w.heap.size<=u.heap.size
theorem Reach.trans {ρ ρ' d:Ren}{w w' u u' v v':Wj}(h:Reach ρ ρ' w w' u u')(k:Reach ρ' d u u' v v'):Reach ρ d w w' v v':=by
 refine ⟨Ren.le_trans h.le k.le,h.chs.trans h.le k.chs,k.sim,h.keep.trans k.keep h.le.old (fun a b c=>(h.new a b c).imp id (·.2)),fun a b c=>?_,by have:=h.drawn;have:=k.drawn;omega,k.tape.trans h.tape,lT h.low k.low,lT h.grow k.grow⟩;rcases k.new a b c with x|⟨x,y⟩
 .exact h.new a b x
 .have:=h.keep.size;have:=h.grow;exact .inr ⟨by omega,by omega⟩
structure RGo (P:Wv)(ρ:Ren)(X:List Wy×List Wy)(g g':Wk):Prop where
 frame:RFr P ρ g.frame g'.frame
 callers:RFs P ρ X g.callers g'.callers
 kind:Kd X g.frame g'.frame g'.callers
 status:g.status=.running/\g'.status=.running
 dying:g.dying=none/\g'.dying=none
 offers:g.offers=none/\g'.offers=none
def ra (g:Wk):Prop:=∃d f,g.dying=some d/\d.calling=false/\d.fatal=some f
def Lost:GStep->Prop
 | .ended _ _ _=>True
 | .go g _ _=>ra g/\g.status=.running
 |_=>False
theorem Lost.noShp {x:GStep}(h:Lost x):noShp x:=fun y w' es ho e=>by
 subst e;cases y with
 |go g=>obtain ⟨⟨d,f,h1,-⟩,-⟩:=h;rw [show g.dying=none from ho] at h1;cases h1
 |_=>exact h
theorem Lost.after {x:GStep}(h:Lost x)(E:Array Event):Lost (GStep.after E x):=by cases x<;>exact h
def AtC (P:Wv)(g:Wk)(c:CommCase)(s:CommShape):Prop:=∀m v,stepG P m g v=.comm g #[c] true s v #[]
inductive de (P:Wv) [Two P](ρ:Ren)(X:List Wy×List Wy)(w w':Wj):GStep->GStep->Prop
 |go {g g':Wk} {u u':Wj} (es:Array Event) {es':Array Event} (ρ':Ren) (R:Reach ρ ρ' w w' u u') (h:RGo P ρ' X g g') (he:∀e∈es',iF ρ' e):de P ρ X w w' (.go g u es) (.go g' u' es')
 |comm {g g':Wk} {c c':CommCase} (hC:(c.send.isSome=true->ρ.F fK=true)/\(c.send=none->ρ.F FX=true)) (s:CommShape) (hs:(c.send.isSome=true/\s=.send)\/(c.send=none/\∃ok,s=.recv ok)) (hrun:g.status=.running/\g'.status=.running) {u u':Wj} (es:Array Event) {es':Array Event} (ρ':Ren) (R:Reach ρ ρ' w w' u u') (h:RGo P ρ' X g g') (hc:RC ρ' c c') (he:∀e∈es',iF ρ' e) (ha:AtC P g c s/\AtC P.alt g c s/\AtC P g' c' s):de P ρ X w w' (.comm g #[c] true s u es) (.comm g' #[c'] true s u' es')
 |spawn (hC:ρ.F lp=true) {g g' k k':Wk} {u u':Wj} (es:Array Event) {es':Array Event} (ρ':Ren) (R:Reach ρ ρ' w w' u u') (h:RGo P ρ' X g g') (hk:RGo P ρ' ([],[]) k k') (he:∀e∈es',iF ρ' e):de P ρ X w w' (.spawn g k u es) (.spawn g' k' u' es')
theorem de.after {P:Wv} [Two P]{ρ:Ren}{X:List Wy×List Wy}{w w':Wj}{x x':GStep}(h:de P ρ X w w' x x')(E:Array Event){E':Array Event}(b:∀ρ',ρ.le ρ'->∀e∈E',iF ρ' e):de P ρ X w w' (GStep.after E x) (GStep.after E' x'):=by
 have a:∀ (ρ':Ren),ρ.le ρ'->∀ (es':Array Event),(∀e∈es',iF ρ' e)->∀e∈E'++es',iF ρ' e:=fun ρ' l es' h e he=>by
  rcases Array.mem_append.1 he with h1|h1
  .exact b ρ' l e h1
  .exact h e h1
 cases h with
 |go es ρ' R h he=>exact .go _ ρ' R h (a ρ' R.le _ he)
 |comm hC s hs hrun es ρ' R h hc he ha=>exact .comm hC s hs hrun _ ρ' R h hc (a ρ' R.le _ he) ha
 |spawn hC es ρ' R h hk he=>exact .spawn hC _ ρ' R h hk (a ρ' R.le _ he)
structure Apart (P:Wv) [Two P](ρ:Ren)(X:List Wy×List Wy)(w w':Wj)(f:FuncId)(ρ':Ren)(a a':Array Wx)(fr fr':Wy)(cs cs':List Wy)(u u':Wj)(es es':Array Event)(x xa x':GStep):Prop where
 mark:Mk ρ.F f=true
 reach:Reach ρ ρ' w w' u u'
 args:RVs ρ' a a'/\a.size=2
 frame:RFr P ρ' fr fr'
 callers:RFs P ρ' X cs cs'
 kind:Kd X fr fr' cs'
 ev:∀e∈es',iF ρ' e
 here:x=.go {frame:=Frame.enter P f a .normal,callers:=fr::cs,status:=.running,dying:=none} u es
 other:xa=.go {frame:=Frame.enter P.alt f a .normal,callers:=fr::cs,status:=.running,dying:=none} u es
 there:x'=.go {frame:=Frame.enter P f a' .normal,callers:=fr'::cs',status:=.running,dying:=none} u' es'
def SR (P:Wv) [Two P](ρ:Ren)(X:List Wy×List Wy)(w w':Wj)(x c x':GStep):Prop:=(Lost x/\Lost c)\/(c=x/\de P ρ X w w' x x')\/∃f ρ' a a' fr fr' cs b u u' es es',Apart P ρ X w w' f ρ' a a' fr fr' cs b u u' es es' x c x'
structure SF (P:Wv) [Two P](ρ:Ren)(X:List Wy×List Wy)(w w':Wj)(f fa:Wj->GStep)(x':GStep):Prop where
 mir:tz w f
 rel:SR P ρ X w w' (f w) (fa w) x'
theorem Reach.refl {ρ:Ren}{w w':Wj}(S:bI ρ w w'):Reach ρ ρ w w' w w':=⟨Ren.le_refl _,Chs.refl _ _ _,S,Keep.refl _ _,fun _a _b h=>.inl h,rfl,rfl,lR _,lR _⟩
def Same (w w':Wj):Prop:=∀i,w'.tape (w'.drawn+i)=w.tape (w.drawn+i)
theorem Same.draws {w w':Wj}(h:Same w w')(u:Wj):Draws w w' u:=fun i _=>h i
theorem de.trans {P:Wv} [Two P]{ρ ρ':Ren}{X:List Wy×List Wy}{w w' u u':Wj}(R:Reach ρ ρ' w w' u u'){x x':GStep}(h:de P ρ' X u u' x x'):de P ρ X w w' x x':=by
 cases h with
 |go es ρ2 R2 h he=>exact .go es ρ2 (R.trans R2) h he
 |comm hC s hs hrun es ρ2 R2 h hc he ha=>exact .comm (by rw [<-R.le.F];exact hC) s hs hrun es ρ2 (R.trans R2) h hc he ha
 |spawn hC es ρ2 R2 h hk he=>exact .spawn (by rw [<-R.le.F];exact hC) es ρ2 (R.trans R2) h hk he
theorem SR.trans {P:Wv} [Two P]{ρ ρ':Ren}{X:List Wy×List Wy}{w w' u u':Wj}(R:Reach ρ ρ' w w' u u'){x c x':GStep}(h:SR P ρ' X u u' x c x'):SR P ρ X w w' x c x':=by
 rcases h with h|⟨h1,h2⟩|⟨f,d,a,a',fr,fr',cs,b,v,v',es,es',A⟩
 .exact .inl h
 .exact .inr (.inl ⟨h1,h2.trans R⟩)
 .exact .inr (.inr ⟨f,d,a,a',fr,fr',cs,b,v,v',es,es',⟨by rw [<-R.le.F];exact A.mark,R.trans A.reach,A.args,A.frame,A.callers,A.kind,A.ev,A.here,A.other,A.there⟩⟩)
theorem SR.after {P:Wv} [Two P]{ρ:Ren}{X:List Wy×List Wy}{w w':Wj}{x d x':GStep}(h:SR P ρ X w w' x d x')(E:Array Event){E':Array Event}(i:∀ρ',ρ.le ρ'->∀e∈E',iF ρ' e):SR P ρ X w w' (GStep.after E x) (GStep.after E d) (GStep.after E' x'):=by
 rcases h with ⟨h1,h2⟩|⟨h1,h2⟩|⟨f,c,a,a',fr,fr',cs,b,v,v',es,es',A⟩
 .exact .inl ⟨h1.after _,h2.after _⟩
 .exact .inr (.inl ⟨by rw [h1],h2.after _ i⟩)
 .refine .inr (.inr ⟨f,c,a,a',fr,fr',cs,b,v,v',E++es,E'++es',⟨A.mark,A.reach,A.args,A.frame,A.callers,A.kind,fun e he=>?_,by rw [A.here];rfl,by rw [A.other];rfl,by rw [A.there];rfl⟩⟩);rcases Array.mem_append.1 he with h|h
  .exact i c A.reach.le e h
  .exact A.ev e h
theorem Reach.same {ρ ρ':Ren}{w w' u u':Wj}(R:Reach ρ ρ' w w' u u')(h:Same w w'):Same u u':=fun i=>by
 have h1:=h (u.drawn-w.drawn+i);have h2:=R.drawn;have h3:=R.low;rw [R.keep.tape,R.tape,show u'.drawn+i=w'.drawn+(u.drawn-w.drawn+i) by omega,h1,show w.drawn+(u.drawn-w.drawn+i)=u.drawn+i by omega]
section
variable {P:Wv} [Two P] {ρ:Ren} {X:List Wy×List Wy} {w w':Wj}
theorem Co {g g':Wk}(h:RGo P ρ X g g')(S:bI ρ w w'):SF P ρ X w w' (fun u=>.go g u) (fun u=>.go g u) (.go g' w'):=
 ⟨cE _ _ _,.inr (.inl ⟨rfl,.go _ ρ (Reach.refl S) h (fun e he=>by simp at he)⟩)⟩
theorem iT {f a:Wj->GStep}{x':GStep}(h:Lost (f w))(ha:Lost (a w)):SF P ρ X w w' f a x':=⟨iZ _ _ h.noShp,.inl ⟨h,ha⟩⟩
theorem gp {f a g ga:Wj->GStep}{x' b:GStep}(h:SF P ρ X w w' g ga b)(e:∀u,f u=g u)(c:∀u,a u=ga u)(ex:x'=b):SF P ρ X w w' f a x':=by
 have e1:f=g:=funext e;have e2:a=ga:=funext c;subst e1;subst e2;subst ex;exact h
theorem nh {α β:Type}{Q:Ren->α->β->Prop}{s:Sem α}{s':Sem β}(hs:RS P Q ρ s s')(S:bI ρ w w')(hd:Same w w'){F Fa:Result α->Array Event->GStep}{F':Result β->Array Event->GStep}
  (c:∀h u es,eu h=true->Lost (F (.halt h u) es)/\Lost (Fa (.halt h u) es))
  (hok:∀ρ' u u' a b es es',Reach ρ ρ' w w' u u'->Q ρ' a b->(∀e∈es',iF ρ' e)->tz u (fun u=>F (.ok a u) es)/\SR P ρ X w w' (F (.ok a u) es) (Fa (.ok a u) es) (F' (.ok b u') es'))
  (f:∀ρ' u u' v v' es es',Reach ρ ρ' w w' u u'->RV ρ' v v'->(∀e∈es',iF ρ' e)->tz u (fun u=>F (.halt (.panic v) u) es)/\SR P ρ X w w' (F (.halt (.panic v) u) es) (Fa (.halt (.panic v) u) es) (F' (.halt (.panic v') u') es')):
  SF P ρ X w w' (fun u=>F (s.runT P u #[]).1 (s.runT P u #[]).2) (fun u=>Fa (s.runT P.alt u #[]).1 (s.runT P.alt u #[]).2) (F' (s'.runT P w' #[]).1 (s'.runT P w' #[]).2):=by
 obtain ⟨hm,hout⟩:=pz hs w w' #[] #[] S (hd.draws _);rcases hout with ⟨⟨h,u,hr,hn⟩,⟨ha,o,n,k⟩⟩|⟨halt,ρ',l,S',i,K,N,D,E,G,C⟩
 .refine iT ?_ ?_
  .simp only [hr];exact (c h u _ hn).1
  .simp only [n];exact (c ha o _ k).2
 .obtain ⟨E0,m,hE2⟩:=E;have hev:∀e∈(s'.runT P w' #[]).2,iF ρ' e:=fun e he=>by rw [m] at he;exact hE2 e (by simpa using he)
  cases hr:s.runT P w #[] with
  |mk r es=>
   cases j:s'.runT P w' #[] with
   |mk r' es'=>
    rw [hr] at i S' D halt G C;rw [j] at i S' D K hev C;simp only at i S' D K hev G C;have key:tz w (fun u=>F (s.runT P u #[]).1 (s.runT P u #[]).2)/\SR P ρ X w w' (F r es) (Fa r es) (F' r' es'):=by
     cases i with
     | @ok a b u u' h=>
      have R:Reach ρ ρ' w w' u u':=⟨l,C,S',K,N,D,by have:=hm.1;rw [hr] at this;exact this,by have:=hm.2.1;rw [hr] at this;exact this,G⟩;obtain ⟨k1,k2⟩:=hok ρ' u u' a b es es' R h hev;refine ⟨?_,k2⟩;intro x v es2 hx e;replace e:F (s.runT P w #[]).1 (s.runT P w #[]).2=x.mk v es2:=e;obtain ⟨h1,h2,h3⟩:=hm;rw [hr] at e h1 h2 h3;simp only [Result.w,Result.on] at e h1 h2 h3;obtain ⟨q1,q2,q3⟩:=k1 _ _ _ hx e;refine ⟨q1.trans h1,by omega,fun τ d hl=>?_⟩;have hm2:=h3 τ d (q8 hl q2);simp only [hm2];have:=q3 τ (d+(u.drawn-w.drawn)) (ol hl h1 h2);simp only at this;rw [this];congr 2;omega
     | @halt a b u u' h=>
      have R:Reach ρ ρ' w w' u u':=⟨l,C,S',K,N,D,by have:=hm.1;rw [hr] at this;exact this,by have:=hm.2.1;rw [hr] at this;exact this,G⟩;cases h with
      |panic hv=>
       obtain ⟨k1,k2⟩:=f ρ' u u' _ _ es es' R hv hev;refine ⟨?_,k2⟩;intro x v es2 hx e;replace e:F (s.runT P w #[]).1 (s.runT P w #[]).2=x.mk v es2:=e;obtain ⟨h1,h2,h3⟩:=hm;rw [hr] at e h1 h2 h3;simp only [Result.w,Result.on] at e h1 h2 h3;obtain ⟨q1,q2,q3⟩:=k1 _ _ _ hx e;refine ⟨q1.trans h1,by omega,fun τ d hl=>?_⟩;have hm2:=h3 τ d (q8 hl q2);simp only [hm2];have:=q3 τ (d+(u.drawn-w.drawn)) (ol hl h1 h2);simp only at this;rw [this];congr 2;omega
    refine ⟨key.1,?_⟩;simp only [hr,halt];exact key.2
theorem EA {α β:Type}{Q:Ren->α->β->Prop}{s:Sem α}{s':Sem β}(hs:RS P Q ρ s s')(S:bI ρ w w')(hd:Same w w'){f m:Wj->GStep}{x':GStep}
  (c:∀h u es,eu h=true->(s.runT P w #[]=(.halt h u,es)->Lost (f w))/\(s.runT P.alt w #[]=(.halt h u,es)->Lost (m w)))
  (hok:∀ρ' u u' a b es es',Reach ρ ρ' w w' u u'->Q ρ' a b->(∀e∈es',iF ρ' e)->s'.runT P w' #[]=(.ok b u',es') ->
   ∃x E,(∀z v,s.runT P z #[]=(.ok a v,es)->f z=Shp.mk x v E)/\(∀z v,s.runT P.alt z #[]=(.ok a v,es)->m z=Shp.mk x v E)/\de P ρ X w w' (Shp.mk x u E) x')
  (j:∀ρ' u u' v v' es es',Reach ρ ρ' w w' u u'->RV ρ' v v'->(∀e∈es',iF ρ' e)->s'.runT P w' #[]=(.halt (.panic v') u',es') ->
   ∃x E,(∀z q,s.runT P z #[]=(.halt (.panic v) q,es)->f z=Shp.mk x q E)/\(∀z q,s.runT P.alt z #[]=(.halt (.panic v) q,es)->m z=Shp.mk x q E)/\de P ρ X w w' (Shp.mk x u E) x'):
  SF P ρ X w w' f m x':=by
 obtain ⟨hm,hout⟩:=pz hs w w' #[] #[] S (hd.draws _);rcases hout with ⟨⟨h,u,hr,hn⟩,⟨ha,t,p,n⟩⟩|⟨halt,ρ',l,S',k,K,N,D,E,G,C⟩
 .refine iT ((c h u (s.runT P w #[]).2 hn).1 ?_) ((c ha t (s.runT P.alt w #[]).2 n).2 ?_)
  .rw [<-hr]
  .rw [<-p]
 .obtain ⟨E0,o,hE2⟩:=E;have hev:∀e∈(s'.runT P w' #[]).2,iF ρ' e:=fun e he=>by rw [o] at he;exact hE2 e (by simpa using he)
  cases hr:s.runT P w #[] with
  |mk r es=>
   cases i:s'.runT P w' #[] with
   |mk r' es'=>
    rw [hr] at k S' D halt G C;rw [i] at k S' D K hev C;simp only at k S' D K hev G C;have fin:∀ (x:Shp) (E:Array Event) (u:Wj),r.w=u->f w=x.mk u E->(∀τ d,Like w u τ d->f (w.on τ d)=x.mk (u.on τ (d+(u.drawn-w.drawn))) E)->tz w f:=by
     intro x E u A h1 h2 y v es2 hy e;rw [h1] at e;obtain ⟨rfl,rfl,rfl⟩:=Shp.mk_inj e;have k1:=hm.1;have k2:=hm.2.1;rw [hr] at k1 k2;simp only [A] at k1 k2;exact ⟨k1,k2,h2⟩
    have m3:=hm.2.2;rw [hr] at m3;cases k with
    | @ok a b u u' h=>
     have R:Reach ρ ρ' w w' u u':=⟨l,C,S',K,N,D,by have:=hm.1;rw [hr] at this;exact this,by have:=hm.2.1;rw [hr] at this;exact this,G⟩;obtain ⟨x,E,q1,q2,q3⟩:=hok ρ' u u' a b es es' R h hev i;refine ⟨fin x E u rfl (q1 w u hr) (fun τ d hl=>q1 _ _ (m3 τ d hl)),.inr (.inl ⟨?_,?_⟩)⟩
     .rw [q1 w u hr,q2 w u halt]
     .rw [q1 w u hr];exact q3
    | @halt a b u u' h=>
     have R:Reach ρ ρ' w w' u u':=⟨l,C,S',K,N,D,by have:=hm.1;rw [hr] at this;exact this,by have:=hm.2.1;rw [hr] at this;exact this,G⟩;cases h with
     |panic hv=>
      obtain ⟨x,E,q1,q2,q3⟩:=j ρ' u u' _ _ es es' R hv hev i;refine ⟨fin x E u rfl (q1 w u hr) (fun τ d hl=>q1 _ _ (m3 τ d hl)),.inr (.inl ⟨?_,?_⟩)⟩
      .rw [q1 w u hr,q2 w u halt]
      .rw [q1 w u hr];exact q3
end
theorem ni (f:Wy)(v:Wx):(f.finish v).kind=f.kind:=by
 unfold Frame.finish;split<;>rfl
theorem om (f:Wy)(c:List PanicEntry):(f.raise c).kind=f.kind:=by
 unfold Frame.raise;split<;>rfl
theorem rb (f:Wy)(v:Wx):(f.finish v).roundOf=f.roundOf:=by
 unfold Frame.finish;split<;>rfl
theorem tY (f:Wy)(c:List PanicEntry):(f.raise c).roundOf=f.roundOf:=by
 unfold Frame.raise;split<;>rfl
theorem Kd.finish {X:List Wy×List Wy}{f f':Wy}{l:List Wy}(h:Kd X f f' l)(v v':Wx):Kd X (f.finish v) (f'.finish v') l:=⟨fun k=>by rw [ni,ni];exact h.1 k,fun k=>by rw [rb];exact h.2 k⟩
theorem Kd.raise {X:List Wy×List Wy}{f f':Wy}{l:List Wy}(h:Kd X f f' l)(c c':List PanicEntry):Kd X (f.raise c) (f'.raise c') l:=⟨fun k=>by rw [om,om];exact h.1 k,fun k=>by rw [tY];exact h.2 k⟩
theorem Kd.push {P:Wv}{ρ:Ren}{X:List Wy×List Wy}{f f' g:Wy}{l l':List Wy}(hl:RFs P ρ X l l')(h:f.kind=f'.kind):Kd X f f' (g::l'):=⟨fun _=>h,fun k=>absurd k hl.ne⟩
section
variable {P:Wv} {ρ:Ren} {X:List Wy×List Wy} {w w':Wj}
theorem RPn.append {l l' k k':List PanicEntry}(h:RPn ρ l l')(hk:RPn ρ k k'):RPn ρ (l++k) (l'++k'):=by
 induction h with
 |nil=>exact hk
 |cons r g h _ ih=>exact .cons r g h ih
theorem RFr.raise {f f':Wy}(h:RFr P ρ f f'){c c':List PanicEntry}(hv:RPn ρ c c'):RFr P ρ (f.raise c) (f'.raise c'):=by
 unfold Frame.raise;have hm:=h.mode;cases h1:f.mode<;>cases h2:f'.mode<;>rw [h1,h2] at hm<;>cases hm
 .exact ⟨h.fn,h.tmps,h.todo,h.defers,.panicking hv,h.early,h.round⟩
 .exact ⟨h.fn,h.tmps,h.todo,h.defers,.panicking hv,h.early,h.round⟩
 .rename_i hl;exact ⟨h.fn,h.tmps,h.todo,h.defers,.panicking (hv.append hl),h.early,h.round⟩
theorem RFr.raise1 {f f':Wy}(h:RFr P ρ f f'){v v':Wx}(hv:RV ρ v v'):RFr P ρ (f.raise [{v,recovered:=false}]) (f'.raise [{v:=v',recovered:=false}]):=h.raise (.cons _ _ hv .nil)
theorem RIs.no_call {l l':List Item}(h:RIs P ρ l l'):(∀d b r s k,l≠.call d b r s::k)/\(∀d b r s k,l'≠.call d b r s::k):=by
 cases h with
 |nil=>exact ⟨fun _ _ _ _ _ e=>by simp at e,fun _ _ _ _ _ e=>by simp at e⟩
 |cons h _=>cases h<;>exact ⟨fun _ _ _ _ _ e=>by simp at e,fun _ _ _ _ _ e=>by simp at e⟩
theorem xl [Two P](c:GId P ρ)(f:FuncId):(P.alt.funcs[f]?).any (·.norace)=(P.funcs[f]?).any (·.norace):=by
 have h:=c.same f;generalize P.alt.funcs[f]?=a at h;generalize P.funcs[f]?=b at h;cases a<;>cases b<;>simp [strip] at h ⊢
 exact h.2.2.2.2.2.2.2.2.2.1
theorem dB [Two P](a:GId P ρ)(f:FuncId)(es:Array Event):seen P.alt f es=seen P f es:=by
 unfold seen;simp only [xl a]
theorem tZ {f f':Wy}(h:RFr P ρ f f'):Frame.noResult P f=Frame.noResult P f':=by
 have ht:=h.todo;unfold Frame.noResult Frame.oper?;generalize f.todo=td at ht;generalize f'.todo=td' at ht;cases ht with
 |nil=>rfl
 |cons a hk=>
  cases a with
  |inRegion l h=>cases l<;>rfl
  |_=>rfl
def jA (p:Wv)(fr:Wy)(cs:List Wy):Result Next->Array Event->GStep
 | .ok a u,es=>GStep.after (seen p fr.fn es) (stepG.apply p true fr cs none (.pure a) u)
 | .halt a u,es=>GStep.after (seen p fr.fn (q9 a es)) (stepG.apply p true fr cs none (.halt a) u)
theorem mD (p:Wv)(fr:Wy)(hk:(fr.kind == .early)=false)(cs:List Wy)(s:Sem Next)(u:Wj):stepG.apply p true fr cs none s u=jA p fr cs (s.runT p u #[]).1 (s.runT p u #[]).2:=by
 cases hr:s.runT p u #[] with
 |mk r es=>
  cases r with
  |ok a v=>rw [Cn hr];simp only [hk,jA];rfl
  |halt a v=>rw [xj hr];simp only [hk,jA];rfl
theorem gq (p:Wv)(fr:Wy)(cs:List Wy)(f:FuncId)(a:Array Wx)(u:Wj)(h:∀d b r s k,fr.todo≠.call d b r s::k):stepG.apply p true fr cs none (.pure (.enter f a)) u=.go {frame:=Frame.enter p f a .normal,callers:=fr::cs,status:=.running,dying:=none} u:=by
 have c:∀ (p:Wv) (f:FuncId) (k:CallKind),seen p f (if k == .early then #[] else #[])=#[]:=fun p f k=>by split<;>exact fq _ _
 simp only [stepG.apply,Sem.runT,if_true,c,cn];split
 .rename_i d r s k e;exact absurd e (h d true r s k)
 .rfl
variable [Two P]
theorem pK (hI:GId P ρ){ρ':Ren}{u u':Wj}(R:Reach ρ ρ' w w' u u'){fr fr':Wy}(hf:RFr P ρ' fr fr'){cs cs':List Wy}(hc:RFs P ρ' X cs cs')(hkd:Kd X fr fr' cs'){a b:Next}(h:RX ρ' a b)(E:Array Event){E':Array Event}(hE:∀e∈E',iF ρ' e):
  tz u (fun u=>GStep.after E (stepG.apply P true fr cs none (.pure a) u))/\SR P ρ X w w' (GStep.after E (stepG.apply P true fr cs none (.pure a) u)) (GStep.after E (stepG.apply P.alt true fr cs none (.pure a) u)) (GStep.after E' (stepG.apply P true fr' cs' none (.pure b) u')):=by
 have hI':=hI.mono R.le;have ev:∀e∈E'++#[],iF ρ' e:=by simpa using hE
 have sn:∀ (p:Wv) (f:FuncId) (k:CallKind),seen p f (if k == .early then #[] else #[])=#[]:=fun p f k=>by split<;>exact fq _ _
 cases h with
 |value hv=>
  simp only [stepG.apply,Sem.runT,if_true,sn,cn];exact ⟨aO _ (cE _ _ _),.inr (.inl ⟨rfl,.go _ ρ' R ⟨hf.finish hv,hc,hkd.finish _ _,⟨rfl,rfl⟩,⟨rfl,rfl⟩,rfl,rfl⟩ ev⟩)⟩
 |skip=>
  simp only [stepG.apply,Sem.runT,if_true,sn,cn];exact ⟨aO _ (cE _ _ _),.inr (.inl ⟨rfl,.go _ ρ' R ⟨hf.finish cW,hc,hkd.finish _ _,⟨rfl,rfl⟩,⟨rfl,rfl⟩,rfl,rfl⟩ ev⟩)⟩
 |enter f hF ha=>
  simp only [gq _ _ _ _ _ _ hf.todo.no_call.1,gq _ _ _ _ _ _ hf.todo.no_call.2];refine ⟨aO _ (cE _ _ _),.inr (.inl ⟨?_,.go _ ρ' R ⟨RFr.enter hI' f hF _ rfl (by simp) ha,.cons hf hkd hc,Kd.push hc rfl,⟨rfl,rfl⟩,⟨rfl,rfl⟩,rfl,rfl⟩ ev⟩)⟩;rw [qZ hI' f hF]
 |round hl f ht a b ha hb=>
  simp only [stepG.apply,Sem.runT,if_true,sn,cn];refine ⟨aO _ (cE _ _ _),.inr (.inl ⟨rfl,.go _ ρ' R ⟨⟨rfl,ht,?_,.nil,.run,⟨rfl,rfl,by simp [Frame.round]⟩,.some hl⟩,.cons hf hkd hc,Kd.push hc rfl,⟨rfl,rfl⟩,⟨rfl,rfl⟩,rfl,rfl⟩ ev⟩)⟩;rw [hI'.prog] at ha hb;exact .cons (.code ha) (.cons .beginRound (.cons (.code hb) .nil))
 | @defer hS d d' hd=>
  simp only [stepG.apply,Sem.runT,if_true,sn,cn];have hf2:RFr P ρ' {fr with defers:=d::fr.defers} {fr' with defers:=d'::fr'.defers}:=⟨hf.fn,hf.tmps,hf.todo,.cons hd hf.defers (.inr hS),hf.mode,hf.early,hf.round⟩;exact ⟨aO _ (cE _ _ _),.inr (.inl ⟨rfl,.go _ ρ' R ⟨hf2.finish cW,hc,(show Kd X {fr with defers:=d::fr.defers} {fr' with defers:=d'::fr'.defers} cs' from hkd).finish _ _,⟨rfl,rfl⟩,⟨rfl,rfl⟩,rfl,rfl⟩ ev⟩)⟩
 | @spawn hC d d' hd=>
  simp only [stepG.apply,Sem.runT,if_true,sn,cn];have e2:Frame.noResult P fr=Frame.noResult P fr':=tZ hf;have e3:Frame.noResult P.alt fr=Frame.noResult P fr:=rfl;have hk:RFr P ρ' {(default:Wy) with fn:=P.funcs.size,defers:=[d],mode:=.panicking [goexitEntry]} {(default:Wy) with fn:=P.funcs.size,defers:=[d'],mode:=.panicking [goexitEntry]}:=
   {fn:=rfl,tmps:=RVs.nil,todo:=.nil,defers:=RDs.cons hd RDs.nil (.inr (by rw [hC,Bool.or_true])),mode:=RM.panicking (RPn.cons _ _ cW RPn.nil),early:=⟨rfl,rfl,by simp [default,instInhabitedFrame.default,instInhabitedCallKind.default]⟩,round:=.none}
  have fin:SR P ρ X w w' (GStep.after E (.spawn {frame:=fr.finish Wo,callers:=cs,status:=.running,dying:=none} {frame:={(default:Wy) with fn:=P.funcs.size,defers:=[d],mode:=.panicking [goexitEntry]},callers:=[],status:=.running,dying:=none} u)) (GStep.after E (.spawn {frame:=fr.finish Wo,callers:=cs,status:=.running,dying:=none} {frame:={(default:Wy) with fn:=P.alt.funcs.size,defers:=[d],mode:=.panicking [goexitEntry]},callers:=[],status:=.running,dying:=none} u)) (GStep.after E' (.spawn {frame:=fr'.finish Wo,callers:=cs',status:=.running,dying:=none} {frame:={(default:Wy) with fn:=P.funcs.size,defers:=[d'],mode:=.panicking [goexitEntry]},callers:=[],status:=.running,dying:=none} u')):=
   .inr (.inl ⟨by rw [hI'.size],.spawn (by rw [<-R.le.F];exact hC) _ ρ' R ⟨hf.finish cW,hc,hkd.finish _ _,⟨rfl,rfl⟩,⟨rfl,rfl⟩,rfl,rfl⟩ ⟨hk,.base,⟨fun _=>rfl,fun _=>rfl⟩,⟨rfl,rfl⟩,⟨rfl,rfl⟩,rfl,rfl⟩ ev⟩)
  have lost : ∀ (fr : Wy) (u : Wj), Lost (endThrow fr "go of nil func value" u) := fun fr u => by unfold endThrow dieOf; exact ⟨⟨_, _, rfl, rfl, rfl⟩, rfl⟩
  cases hd with
  |odd=>
   simp only [Bool.and_false,Bool.false_and,Bool.false_eq_true,if_false];exact ⟨aO _ (kn _ (.spawn _ _) _),fin⟩
  |mk ht ha=>
   have hs:=ha.size;obtain ⟨t,a⟩:=d;obtain ⟨t',a'⟩:=d';simp only at hs ht;have e1:a.isEmpty=a'.isEmpty:=by simp only [Array.isEmpty,hs]
   cases ht with
   |nil=>
    dsimp only;rw [<-e1,<-e2,e3];have ef:P.alt.follows .goNilFatal=P.follows .goNilFatal:=rfl;rw [ef];by_cases hx:(P.follows .goNilFatal&&true&&a.isEmpty&&Frame.noResult P fr)=true
    .simp only [hx,if_true];exact ⟨iZ _ _ ((lost _ _).after _).noShp,.inl ⟨(lost _ _).after _,(lost _ _).after _⟩⟩
    .simp only [hx];exact ⟨aO _ (kn _ (.spawn _ _) _),fin⟩
   |_=>
    simp only [Bool.and_false,Bool.false_and,Bool.false_eq_true,if_false];exact ⟨aO _ (kn _ (.spawn _ _) _),fin⟩
theorem n9 (i:GId P ρ){ρ':Ren}{u u':Wj}(R:Reach ρ ρ' w w' u u'){fr fr':Wy}(hf:RFr P ρ' fr fr'){cs c:List Wy}(hc:RFs P ρ' X cs c)(hkd:Kd X fr fr' c){a b:Next}(h:RX1 ρ' a b)(E:Array Event){E':Array Event}(d:∀e∈E',iF ρ' e):
  tz u (fun u=>GStep.after E (stepG.apply P true fr cs none (.pure a) u))/\SR P ρ X w w' (GStep.after E (stepG.apply P true fr cs none (.pure a) u)) (GStep.after E (stepG.apply P.alt true fr cs none (.pure a) u)) (GStep.after E' (stepG.apply P true fr' c none (.pure b) u')):=by
 cases h with
 |of h=>exact pK i R hf hc hkd h E d
 | @mk f j a a' ha hs2=>
  simp only [gq _ _ _ _ _ _ hf.todo.no_call.1,gq _ _ _ _ _ _ hf.todo.no_call.2];refine ⟨aO _ (cE _ _ _),.inr (.inr ⟨f,ρ',a,a',fr,fr',cs,c,u,u',E++#[],E'++#[],⟨by rw [<-R.le.F];exact j,R,⟨ha,hs2⟩,hf,hc,hkd,by simpa using d,rfl,rfl,rfl⟩⟩)⟩
theorem iJ (i:GId P ρ){fr fr':Wy}(hf:RFr P ρ fr fr'){cs d:List Wy}(hc:RFs P ρ X cs d)(hkd:Kd X fr fr' d){s s':Sem Next}(hs:RS P RX1 ρ s s')(S:bI ρ w w')(hd:Same w w'):
  SF P ρ X w w' (fun u=>stepG.apply P true fr cs none s u) (fun u=>stepG.apply P.alt true fr cs none s u) (stepG.apply P true fr' d none s' w'):=by
 have hk':(fr'.kind == .early)=false:=hf.early.2.1;refine gp (nh hs S hd (F:=jA P fr cs) (Fa:=jA P.alt fr cs) (F':=jA P fr' d) ?_ ?_ ?_) (fun u=>mD P fr hf.early.1 cs s u) (fun u=>mD P.alt fr hf.early.1 cs s u) (mD P fr' hk' d s' w')
 .intro h u es hn;have key:∀p:Wv,Lost (jA p fr cs (.halt h u) es):=fun p=>by
   refine Lost.after ?_ _;unfold stepG.apply;simp only [Sem.runT,if_true];refine Lost.after ?_ _;cases h with
   |stuck s=>exact trivial
   |unsupported x=>cases x<;>first|exact trivial|simp [eu] at hn
   |throw m=>show Lost (endThrow fr m u);unfold endThrow dieOf;exact ⟨⟨_,_,rfl,rfl,rfl⟩,rfl⟩
   |_=>simp [eu] at hn
  exact ⟨key P,key P.alt⟩
 .intro ρ' u u' a b es es' R hq he;obtain ⟨k1,k2⟩:=n9 i R (hf.mono R.le) (hc.mono R.le) hkd hq (seen P fr.fn es) (E':=seen P fr'.fn es') (fun e h=>he e (dP h));refine ⟨k1,?_⟩;show SR P ρ X w w' _ (GStep.after (seen P.alt fr.fn es) (stepG.apply P.alt true fr cs none (.pure a) u)) _;rw [dB i];exact k2
 .intro ρ' u u' v v' es es' R hv he;have e1:∀ (p:Wv) (f:Wy) (c:List Wy) (x:Wx) (z:Wj),stepG.apply p true f c none (.halt (.panic x)) z=.go {frame:=f.raise [{v:=x,recovered:=false}],callers:=c,status:=.running,dying:=none} z:=fun p f c x z=>by
   have j:∀ (p:Wv) (f:FuncId) (k:CallKind),seen p f (if k == .early then #[] else #[])=#[]:=fun p f k=>by split<;>exact fq _ _
   simp only [stepG.apply,Sem.runT,if_true,j,cn]
  simp only [jA,e1,q9,dB i];exact ⟨aO _ (cE _ _ _),.inr (.inl ⟨rfl,.go _ ρ' R ⟨(hf.mono R.le).raise1 hv,hc.mono R.le,hkd.raise _ _,⟨rfl,rfl⟩,⟨rfl,rfl⟩,rfl,rfl⟩ (fun e h=>he e (dP (by simpa using h)))⟩)⟩
theorem i6 (S:bI ρ w w'){fr fr':Wy}(hf:RFr P ρ fr fr'){cs a:List Wy}(hc:RFs P ρ X cs a)(hkd:Kd X fr fr' a){k k':List Item}(hk:RIs P ρ k k'):
  SF P ρ X w w' (fun u=>.go {frame:={fr with todo:=k},callers:=cs,status:=.running,dying:=none} u) (fun u=>.go {frame:={fr with todo:=k},callers:=cs,status:=.running,dying:=none} u) (.go {frame:={fr' with todo:=k'},callers:=a,status:=.running,dying:=none} w'):=
 Co ⟨⟨hf.fn,hf.tmps,hk,hf.defers,hf.mode,hf.early,hf.round⟩,hc,hkd,⟨rfl,rfl⟩,⟨rfl,rfl⟩,rfl,rfl⟩ S
omit [Two P] in
theorem xm (id:Nat){k k':List Item}(h:RIs P ρ k k'):(exitTo id k=none/\exitTo id k'=none)\/∃t t',exitTo id k=some t/\exitTo id k'=some t'/\RIs P ρ t t':=by
 induction h with
 |nil=>exact .inl ⟨rfl,rfl⟩
 |cons a hk ih=>
  cases a with
  |inBlock id'=>
   unfold exitTo;split
   .exact .inr ⟨_,_,rfl,rfl,hk⟩
   .exact ih
  |_=>exact ih
omit [Two P] in
theorem rd (F:FuncId->Bool)(l:Nat):∀ (c c':Code),aG P F c=true->findLabel c l=some c'->aG P F c'=true:=by
 intro c;induction c with
 |seq a b f d=>
  intro c' h e;simp only [aG,bT] at h;unfold findLabel at e;split at e
  .rename_i rest hr;cases e;simp only [aG,bT];exact ⟨f rest h.1 hr,h.2⟩
  .exact d c' h.2 e
 |label l'=>
  intro c' h e;unfold findLabel at e;split at e
  .cases e;rfl
  .cases e
 |_=>intro c' h e;simp [findLabel] at e
omit [Two P] in
theorem xn (l:Nat){k k':List Item}(h:RIs P ρ k k'):(gotoIn l k=none/\gotoIn l k'=none)\/∃t t',gotoIn l k=some t/\gotoIn l k'=some t'/\RIs P ρ t t':=by
 induction h with
 |nil=>exact .inl ⟨rfl,rfl⟩
 |cons a hk ih=>
  cases a with
  | @inScope body hb=>
   unfold gotoIn;cases hr:findLabel body l with
   |none=>exact ih
   |some rest=>exact .inr ⟨_,_,rfl,rfl,.cons (.code (rd _ l body rest hb hr)) (.cons (.inScope hb) hk)⟩
  |_=>exact ih
end
section
variable {P:Wv} {ρ:Ren} {X:List Wy×List Wy} {w w':Wj}
theorem oo {c c':Array Wx}(h:RVs ρ c c')(ops:Array Oper):yielded ops c=yielded ops c':=by
 funext j;unfold yielded;cases (ops[j]?).bind (·.dst) with
 |none=>rfl
 |some d=>
  simp only [Option.bind_some];rcases h.get d with ⟨h1,h2⟩|⟨v,v',h1,h2,hv⟩
  .rw [h1,h2]
  .rw [h1,h2];cases hv with
   |dead v' h=>cases v'<;>first|rfl|simp [gQ] at h
   |_=>rfl
theorem RPn.drop {l l':List PanicEntry}(h:RPn ρ l l'):RPn ρ (l.dropWhile (!·.goexit)) (l'.dropWhile (!·.goexit)):=by
 induction h with
 |nil=>exact .nil
 |cons r g h hl ih=>
  cases g with
  |true=>exact .cons r true h hl
  |false=>exact ih
theorem RDs.append {a a' b b':List Deferred}(h:RDs ρ a a')(k:RDs ρ b b'):RDs ρ (a++b) (a'++b'):=by
 induction h with
 |nil=>exact k
 |cons h _ hS ih=>exact .cons h ih hS
variable [Two P]
def Base (X:List Wy×List Wy)(fr:Wy)(a:List Wy):Prop:=a=X.2->fr.mode=.run\/fr.defers≠[]
theorem i7 (m:Bool){ρ':Ren}{u u':Wj}(R:Reach ρ ρ' w w' u u'){fr fr':Wy}(hf:RFr P ρ' fr fr'){cs a:List Wy}(hc:RFs P ρ' X cs a)(hkd:Kd X fr fr' a)(hin:a≠X.2){v v':Wx}(hv:RV ρ' v v')(E:Array Event){E':Array Event}(j:∀e∈E',iF ρ' e):
  tz u (fun u=>GStep.after E (doReturn P m fr cs none v u))/\SR P ρ X w w' (GStep.after E (doReturn P m fr cs none v u)) (GStep.after E (doReturn P.alt m fr cs none v u)) (GStep.after E' (doReturn P m fr' a none v' u')):=by
 have b:∀e∈E'++#[],iF ρ' e:=by simpa using j
 have hke:=hf.early.1;unfold doReturn;rw [<-hkd.1 (.inl hin)];cases hc with
 | @cons c c' l l' hk hk2 hl=>
  cases d:fr.kind with
  |normal=>exact ⟨aO _ (cE _ _ _),.inr (.inl ⟨rfl,.go _ ρ' R ⟨hk.finish hv,hl,hk2.finish _ _,⟨rfl,rfl⟩,⟨rfl,rfl⟩,rfl,rfl⟩ b⟩)⟩
  |wrapped=>exact ⟨aO _ (cE _ _ _),.inr (.inl ⟨rfl,.go _ ρ' R ⟨hk.finish hv,hl,hk2.finish _ _,⟨rfl,rfl⟩,⟨rfl,rfl⟩,rfl,rfl⟩ b⟩)⟩
  |early=>rw [d] at hke;simp at hke
  |_=>
   dsimp only;have hm:=hk.mode;cases h1:Frame.mode _<;>cases h2:Frame.mode _<;>rw [h1,h2] at hm<;>cases hm
   .exact ⟨aO _ (cE _ _ _),.inr (.inl ⟨rfl,.go _ ρ' R ⟨hk,hl,hk2,⟨rfl,rfl⟩,⟨rfl,rfl⟩,rfl,rfl⟩ b⟩)⟩
   .exact ⟨aO _ (cE _ _ _),.inr (.inl ⟨rfl,.go _ ρ' R ⟨hk,hl,hk2,⟨rfl,rfl⟩,⟨rfl,rfl⟩,rfl,rfl⟩ b⟩)⟩
   .rename_i hp;cases hp with
    |nil=>exact ⟨aO _ (cE _ _ _),.inr (.inl ⟨rfl,.go _ ρ' R ⟨hk,hl,hk2,⟨rfl,rfl⟩,⟨rfl,rfl⟩,rfl,rfl⟩ b⟩)⟩
    |cons r g hv2 f=>
     cases r with
     |false=>exact ⟨aO _ (cE _ _ _),.inr (.inl ⟨rfl,.go _ ρ' R ⟨hk,hl,hk2,⟨rfl,rfl⟩,⟨rfl,rfl⟩,rfl,rfl⟩ b⟩)⟩
     |true=>
      dsimp only;have hd:=f.drop;generalize List.dropWhile _ _=A at hd ⊢;generalize List.dropWhile _ _=B at hd ⊢;cases hd with
      |nil=>exact ⟨aO _ (cE _ _ _),.inr (.inl ⟨rfl,.go _ ρ' R ⟨⟨hk.fn,hk.tmps,hk.todo,hk.defers,.returning,hk.early,hk.round⟩,hl,hk2,⟨rfl,rfl⟩,⟨rfl,rfl⟩,rfl,rfl⟩ b⟩)⟩
      |cons r g h i=>exact ⟨aO _ (cE _ _ _),.inr (.inl ⟨rfl,.go _ ρ' R ⟨⟨hk.fn,hk.tmps,hk.todo,hk.defers,.panicking (.cons r g h i),hk.early,hk.round⟩,hl,hk2,⟨rfl,rfl⟩,⟨rfl,rfl⟩,rfl,rfl⟩ b⟩)⟩
 |base=>exact absurd rfl hin
theorem mE (hI:GId P ρ)(m:Bool){fr fr':Wy}(hf:RFr P ρ fr fr'){cs cs':List Wy}(hc:RFs P ρ X cs cs')(hkd:Kd X fr fr' cs')(hin:cs'≠X.2)(S:bI ρ w w')(hd:Same w w'){l l':Nat}(hl:ρ l l')(j:Option Code)(hj:∀c,j=some c->aG ρ.prog ρ.F c=true):
    SF P ρ X w w' (fun u=>GStep.after (seen P fr.fn ((Instr.endRound l j).runT P u #[]).2) (match ((Instr.endRound l j).runT P u #[]).1 with
        | .ok v w=>doReturn P m fr cs none v w
        | .halt _ w => .ended (.stuck "range over a function: no such loop" (fr.pos P)) w))
      (fun u=>GStep.after (seen P.alt fr.fn ((Instr.endRound l j).runT P.alt u #[]).2) (match ((Instr.endRound l j).runT P.alt u #[]).1 with
        | .ok v w=>doReturn P.alt m fr cs none v w
        | .halt _ w => .ended (.stuck "range over a function: no such loop" (fr.pos P.alt)) w))
      (GStep.after (seen P fr'.fn ((Instr.endRound l' j).runT P w' #[]).2) (match ((Instr.endRound l' j).runT P w' #[]).1 with
        | .ok v w=>doReturn P m fr' cs' none v w
        | .halt _ w => .ended (.stuck "range over a function: no such loop" (fr'.pos P)) w)) := by
  refine nh (tM hl j hj) S hd (F := fun r es => GStep.after (seen P fr.fn es) (match r with
        | .ok v w=>doReturn P m fr cs none v w
        | .halt _ w => .ended (.stuck "range over a function: no such loop" (fr.pos P)) w)) (Fa := fun r es => GStep.after (seen P.alt fr.fn es) (match r with
        | .ok v w=>doReturn P.alt m fr cs none v w
        | .halt _ w => .ended (.stuck "range over a function: no such loop" (fr.pos P.alt)) w)) (F' := fun r es => GStep.after (seen P fr'.fn es) (match r with
        | .ok v w=>doReturn P m fr' cs' none v w
        | .halt _ w => .ended (.stuck "range over a function: no such loop" (fr'.pos P)) w)) ?_ ?_ ?_
  . intro h u es hn
    exact ⟨trivial,trivial⟩
  . intro ρ' u u' a b es es' R hq he
    have:=i7 m R (hf.mono R.le) (hc.mono R.le) hkd hin hq (seen P fr.fn es) (E':=seen P fr'.fn es') (fun e h=>he e (dP h));dsimp only;rw [dB hI];exact this
  . intro ρ' u u' v v' es es' R hv he
    exact ⟨iZ _ _ (Lost.noShp (Lost.after (x:=.ended _ _) trivial _)),.inl ⟨trivial,trivial⟩⟩
theorem oq (p:Wv)(f:Wy)(l:List Wy)(cs:Array CommCase)(b:Bool)(s:CommShape)(u:Wj):stepG.apply p true f l none (.pure (.comm cs b s)) u=.comm {frame:=f,callers:=l,status:=.running,dying:=none} cs b s u #[]:=by
 have a:∀ (p:Wv) (f:FuncId) (k:CallKind),seen p f (if k == .early then #[] else #[])=#[]:=fun p f k=>by split<;>exact fq _ _
 simp only [stepG.apply,Sem.runT,if_true,a,cn]
theorem EB (hZ:bM P)(hE:fD P ρ.F)(hN:bV P)(hI:GId P ρ){fr fr':Wy}(hf:RFr P ρ fr fr'){cs cs':List Wy}(hc:RFs P ρ X cs cs')(hkd:Kd X fr fr' cs')(S:bI ρ w w')(hd:Same w w')
  (hmo:∀ (p:Wv) m v,stepG p m {frame:=fr,callers:=cs,status:=.running,dying:=none} v=stepG.oper p true fr cs none v) (hmo':∀ (p:Wv) m v,stepG p m {frame:=fr',callers:=cs',status:=.running,dying:=none} v=stepG.oper p true fr' cs' none v):
  SF P ρ X w w' (fun u=>stepG.oper P true fr cs none u) (fun u=>stepG.oper P.alt true fr cs none u) (stepG.oper P true fr' cs' none w'):=by
 unfold stepG.oper;have ht:=hf.todo;have ho:fr.oper?=fr'.oper?/\∀o,fr.oper?=some o->fH P ρ.F o.op=true:=by
  unfold Frame.oper?;generalize fr.todo=td at ht;generalize fr'.todo=td' at ht;cases ht with
  |nil=>exact ⟨rfl,fun o h=>by simp at h⟩
  |cons hi hk=>
   cases hi with
   | @inRegion ops l hall=>
    cases l with
    |nil=>exact ⟨rfl,fun o h=>by simp at h⟩
    |cons i l=>exact ⟨rfl,fun o h=>by
      obtain ⟨hlt,rfl⟩:=eS h;exact Array.all_eq_true.1 hall i hlt⟩
   |_=>exact ⟨rfl,fun o h=>by simp at h⟩
 obtain ⟨ho1,ho2⟩:=ho;rw [<-ho1];cases hx:fr.oper? with
 |none=>exact iT trivial trivial
 |some o=>
  have hok:=ho2 o hx;by_cases hcm:D1 o.op=true
  .have hgo:RGo P ρ X {frame:=fr,callers:=cs,status:=.running,dying:=none} {frame:=fr',callers:=cs',status:=.running,dying:=none}:=⟨hf,hc,hkd,⟨rfl,rfl⟩,⟨rfl,rfl⟩,rfl,rfl⟩;have hx':fr'.oper?=some o:=by rw [<-ho1];exact hx
   have hxo:=hx';cases hop:o.op with
   |send c x=>
    rw [hop] at hok;simp only [fH,bT] at hok;have e1:∀ (p:Wv) (f:Wy) (l:List Wy) (u:Wj),f.oper?=some o->stepG.oper p true f l none u=.comm {frame:=f,callers:=l,status:=.running,dying:=none} #[{chan:=f.eval c,send:=some (f.eval x),zero:=.tuple #[]}] true .send u #[]:=fun p f l u h=>by
     have e2:execOp f.eval o=.pure (.comm #[{chan:=f.eval c,send:=some (f.eval x),zero:=.tuple #[]}] true .send):=by unfold execOp;rw [hop];rfl
     unfold stepG.oper;rw [h];simp only [hop,e2];cases f.roundOf<;>exact oq p f l _ _ _ u
    have he:=hf.env hI;refine gp (g:=fun u=>.comm {frame:=fr,callers:=cs,status:=.running,dying:=none} _ true .send u #[]) (ga:=fun u=>.comm {frame:=fr,callers:=cs,status:=.running,dying:=none} _ true .send u #[]) ⟨kn _ (.comm _ _ _ _) _,.inr (.inl ⟨rfl,.comm ⟨fun _=>hok.1.1,fun h=>by cases h⟩ .send (.inl ⟨rfl,rfl⟩) ⟨rfl,rfl⟩ _ ρ (Reach.refl S) hgo ⟨he c hok.1.2,.inr ⟨_,_,rfl,rfl,he x hok.2⟩,cW⟩ (fun e h=>absurd h (Array.not_mem_empty e)) ⟨fun m v=>(hmo P m v).trans (e1 P fr cs v hx),fun m v=>(hmo P.alt m v).trans (e1 P.alt fr cs v hx),fun m v=>(hmo' P m v).trans (e1 P fr' cs' v hx')⟩⟩)⟩ (fun u=>?_) (fun u=>?_) ?_
    .have:=e1 P fr cs u hx;unfold stepG.oper at this;rw [hx] at this;exact this
    .have:=e1 P.alt fr cs u hx;unfold stepG.oper at this;rw [hx] at this;exact this
    .have:=e1 P fr' cs' w' hx';unfold stepG.oper at this;rw [hx'] at this;exact this
   |recv t c ok=>
    rw [hop] at hok;have hok0:=hok;simp only [fH,bT] at hok;have he:=hf.env hI;by_cases hz:∃dir elem i z,P.underlying t=some (.chan dir elem)/\P.info? elem=some i/\i.zero=some z
    .obtain ⟨dir,elem,i,z,hu,hi,hzz⟩:=hz;have e2:∀ (p:Wv) (f:Wy) (u:Wj),p.underlying t=P.underlying t->p.info? elem=P.info? elem->(execOp f.eval o).runT p u #[]=(.ok (.comm #[{chan:=f.eval c,send:=none,zero:=z}] true (.recv ok)) u,#[]):=fun p f u h1 h2=>by
      unfold execOp;rw [hop];have a1:∀ {α:Type} (k:TypeDesc->Sem α) (es:Array Event),(Sem.bind (underlying t) k).runT p u es=(k (.chan dir elem)).runT p u es:=fun k es=>by
       have:p.underlying t=some (.chan dir elem):=h1.trans hu
       show Sem.runT p (Sem.bind (match p.underlying t with | some d => Pure.pure d | none => stuck "no such type") k) u es = _
       rw [this];rfl
      have a2:∀ {α:Type} (k:Wx->Sem α) (es:Array Event),(Sem.bind (zeroValue elem) k).runT p u es=(k z).runT p u es:=fun k es=>by
       have:p.info? elem=some i:=h2.trans hi
       show Sem.runT p (Sem.bind (Sem.bind (match p.info? elem with | some i => Pure.pure i | none => stuck "no such type") (fun i => match i.zero with | some v => Pure.pure v | none => unsupported (.resourceLimit "a value of more than 2^22 cells"))) k) u es = _
       rw [this]
       show Sem.runT p (Sem.bind (match i.zero with | some v => Pure.pure v | none => unsupported (.resourceLimit "a value of more than 2^22 cells")) k) u es = _
       rw [hzz];rfl
      refine (a1 _ _).trans ?_;exact (a2 _ _).trans rfl
     have e1:∀ (p:Wv) (f:Wy) (l:List Wy) (u:Wj),p.underlying t=P.underlying t->p.info? elem=P.info? elem->(f.kind == .early)=false->f.oper?=some o->stepG.oper p true f l none u=.comm {frame:=f,callers:=l,status:=.running,dying:=none} #[{chan:=f.eval c,send:=none,zero:=z}] true (.recv ok) u #[]:=fun p f l u h1 h2 hk h=>by
      unfold stepG.oper;rw [h];simp only [hop];have e3:stepG.apply p true f l none (execOp f.eval o) u=.comm {frame:=f,callers:=l,status:=.running,dying:=none} #[{chan:=f.eval c,send:=none,zero:=z}] true (.recv ok) u #[]:=by
       rw [mD p f hk l (execOp f.eval o) u,e2 p f u h1 h2];simp only [jA,fq,cn];exact oq p f l _ _ _ u
      cases f.roundOf<;>exact e3
     have hzv:RV ρ z z:=hZ elem i z hi hzz ρ;refine gp (g:=fun u=>.comm {frame:=fr,callers:=cs,status:=.running,dying:=none} _ true (.recv ok) u #[]) (ga:=fun u=>.comm {frame:=fr,callers:=cs,status:=.running,dying:=none} _ true (.recv ok) u #[]) ⟨kn _ (.comm _ _ _ _) _,.inr (.inl ⟨rfl,.comm ⟨(fun h=>by cases h),fun _=>hok.1⟩ (.recv ok) (.inr ⟨rfl,_,rfl⟩) ⟨rfl,rfl⟩ _ ρ (Reach.refl S) hgo ⟨he c hok.2,.inl ⟨rfl,rfl⟩,hzv⟩ (fun e h=>absurd h (Array.not_mem_empty e)) ⟨fun m v=>(hmo P m v).trans (e1 P fr cs v rfl rfl hf.early.1 hx),fun m v=>(hmo P.alt m v).trans (e1 P.alt fr cs v rfl rfl hf.early.1 hx),fun m v=>(hmo' P m v).trans (e1 P fr' cs' v rfl rfl hf.early.2.1 hx')⟩⟩)⟩ (fun u=>?_) (fun u=>?_) ?_
     .have:=e1 P fr cs u rfl rfl hf.early.1 hx;unfold stepG.oper at this;rw [hx] at this;exact this
     .have:=e1 P.alt fr cs u rfl rfl hf.early.1 hx;unfold stepG.oper at this;rw [hx] at this;exact this
     .have:=e1 P fr' cs' w' rfl rfl hf.early.2.1 hx';unfold stepG.oper at this;rw [hx'] at this;exact this
    .have hrs:RS P RX1 ρ (execOp fr.eval o) (execOp fr'.eval o):=by
      unfold execOp;rw [hop];refine ah (aT t) (fun ρ1 l1 d d' hd=>?_);obtain ⟨rfl,hd⟩:=hd;cases d with
      |chan dir elem=>
       refine ah (Q:=QN) ?_ (fun _ _ _ _ h=>h.elim);unfold zeroValue;refine ah (aH elem) (fun ρ2 l2 a b h=>?_);obtain ⟨rfl,hi⟩:=h;cases hz':a.zero with
       |none=>exact aj _
       |some z=>exact absurd ⟨dir,elem,a,z,hd,hi,hz'⟩ hz
      |_=>exact ae _
     have hgen:=iJ hI hf hc hkd hrs S hd;simp only [hop];cases fr.roundOf<;>cases fr'.roundOf<;>exact hgen
   |_=>rw [hop] at hcm;cases hcm
  have hgen:=iJ hI hf hc hkd (zv hZ hE hN hI (hf.env hI) (fun _=>rfl) (fun _=>rfl) (zw fr) o hok (by simpa using hcm)) S hd;have hr:=hf.round;dsimp only;generalize hq:fr.roundOf=r at hr;generalize hq':fr'.roundOf=r' at hr;cases hr with
  |none=>exact hgen
  | @some l l' hl=>
   cases hop:o.op with
   |defer c=>
    dsimp only;rw [hop] at hok;simp only [fH] at hok;rw [bT] at hok;refine iJ hI hf hc hkd (ah (iI hI (hf.env hI) c hok.2 o.type) (fun ρ1 l1 d d' hd=>ah (nb (l1 _ _ hl) (by rw [l1.F];exact hok.1) hd) (fun ρ2 l2 _ _ _=>aa (.of .skip)))) S hd
   |_=>exact hgen
theorem EC (hZ:bM P)(hE:fD P ρ.F)(hN:bV P)(hI:GId P ρ)(m:Bool){fr fr':Wy}(hf:RFr P ρ fr fr'){cs cs':List Wy}(hc:RFs P ρ X cs cs')(hkd:Kd X fr fr' cs')(_hin:Base X fr cs')(S:bI ρ w w')(hd:Same w w')(hm:fr.mode=.run/\fr'.mode=.run):
  SF P ρ X w w' (fun u=>stepG.exec P m true fr cs none u) (fun u=>stepG.exec P.alt m true fr cs none u) (stepG.exec P m true fr' cs' none w'):=by
 have hret:SF P ρ X w w' (fun u=>.go {frame:={fr with mode:=.returning},callers:=cs,status:=.running,dying:=none} u) (fun u=>.go {frame:={fr with mode:=.returning},callers:=cs,status:=.running,dying:=none} u) (.go {frame:={fr' with mode:=.returning},callers:=cs',status:=.running,dying:=none} w'):=
  Co ⟨⟨hf.fn,hf.tmps,hf.todo,hf.defers,.returning,hf.early,hf.round⟩,hc,hkd,⟨rfl,rfl⟩,⟨rfl,rfl⟩,rfl,rfl⟩ S
 have hlv:∀ (l l':Nat),fr.roundOf=some l->fr'.roundOf=some l'->ρ l l':=fun l l' h1 h2=>by
  have hr:=hf.round;rw [h1,h2] at hr;cases hr with
  |some h=>exact h
 have hrr:(fr.roundOf=none/\fr'.roundOf=none)\/∃l l',fr.roundOf=some l/\fr'.roundOf=some l'/\ρ l l':=by
  have hr:=hf.round;generalize fr.roundOf=r at hr ⊢;generalize fr'.roundOf=r' at hr ⊢;cases hr with
  |none=>exact .inl ⟨rfl,rfl⟩
  |some h=>exact .inr ⟨_,_,rfl,rfl,h⟩
 have hne:∀ {l:Nat},fr.roundOf=some l->cs'≠X.2:=fun {l} h e=>by rw [hkd.2 e] at h;cases h
 have ht:=hf.todo;unfold stepG.exec;generalize hx:fr.todo=td at ht;generalize hx':fr'.todo=td' at ht;cases ht with
 |nil=>
  simp only [];rcases hrr with ⟨r1,r2⟩|⟨l,l',r1,r2,hl⟩
  .simp only [hx,hx',r1,r2,if_true] at hret ⊢;exact hret
  .simp only [r1,r2];exact mE hI m hf hc hkd (hne r1) S hd hl none (fun c e=>by cases e)
 |cons hi hk=>
  cases hi with
  |inBlock id=>simp only [];exact i6 S hf hc hkd hk
  |inLoop hb=>simp only [];exact i6 S hf hc hkd (.cons (.code hb) (.cons (.inLoop hb) hk))
  |inScope hb=>simp only [];exact i6 S hf hc hkd hk
  |inRangeFunc hl=>simp only [];exact iT trivial trivial
  | @endRangeFunc l l' hl=>
   rename_i k k';simp only [];refine nh (wX hl) S hd (F:=fun r es=>GStep.after (seen P fr.fn es) (match r with
    | .ok jump w=>.go {frame:={fr with todo:=(jump.map Item.code).toList++_},callers:=cs,status:=.running,dying:=none} w
    | .halt (.panic v) w=>.go {frame:=fr.raise [{v,recovered:=false}],callers:=cs,status:=.running,dying:=none} w
    | .halt _ w => .ended (.stuck "range over a function: no such loop" (fr.pos P)) w)) (Fa := fun r es => GStep.after (seen P.alt fr.fn es) (match r with
    | .ok jump w=>.go {frame:={fr with todo:=(jump.map Item.code).toList++_},callers:=cs,status:=.running,dying:=none} w
    | .halt (.panic v) w=>.go {frame:=fr.raise [{v,recovered:=false}],callers:=cs,status:=.running,dying:=none} w
    | .halt _ w => .ended (.stuck "range over a function: no such loop" (fr.pos P.alt)) w)) (F' := fun r es => GStep.after (seen P fr'.fn es) (match r with
    | .ok jump w=>.go {frame:={fr' with todo:=(jump.map Item.code).toList++_},callers:=cs',status:=.running,dying:=none} w
    | .halt (.panic v) w=>.go {frame:=fr'.raise [{v,recovered:=false}],callers:=cs',status:=.running,dying:=none} w
    | .halt _ w => .ended (.stuck "range over a function: no such loop" (fr'.pos P)) w)) ?_ ?_ ?_
   .intro h u es hn;have key:∀q:Wv,Lost (GStep.after (seen q fr.fn es) (match (Result.halt h u:Result (Option Code)) with
     | .ok jump w=>.go {frame:={fr with todo:=(jump.map Item.code).toList++k},callers:=cs,status:=.running,dying:=none} w
     | .halt (.panic v) w=>.go {frame:=fr.raise [{v,recovered:=false}],callers:=cs,status:=.running,dying:=none} w
     | .halt _ w => .ended (.stuck "range over a function: no such loop" (fr.pos q)) w)) := fun q => by
     cases h<;>first|exact trivial|simp [eu] at hn
    exact ⟨key P,key P.alt⟩
   .intro ρ' u u' a b es es' R hq he;obtain ⟨rfl,hq⟩:=hq;dsimp only;rw [dB hI];refine ⟨aO _ (cE _ _ _),.inr (.inl ⟨rfl,.go _ ρ' R ⟨⟨hf.fn,hf.tmps.mono R.le,?_,hf.defers.mono R.le,hf.mode.mono R.le,hf.early,hf.round.mono R.le⟩,hc.mono R.le,hkd,⟨rfl,rfl⟩,⟨rfl,rfl⟩,rfl,rfl⟩ (fun e h=>he e (dP (by simpa using h)))⟩)⟩;cases a with
    |none=>exact hk.mono R.le
    |some c=>
     have:=hq c rfl;rw [R.le.prog,hI.prog] at this;exact .cons (.code this) (hk.mono R.le)
   .intro ρ' u u' v v' es es' R hv he;dsimp only;rw [dB hI];exact ⟨aO _ (cE _ _ _),.inr (.inl ⟨rfl,.go _ ρ' R ⟨(hf.mono R.le).raise1 hv,hc.mono R.le,hkd.raise _ _,⟨rfl,rfl⟩,⟨rfl,rfl⟩,rfl,rfl⟩ (fun e h=>he e (dP (by simpa using h)))⟩)⟩
  |beginRound=>
   simp only [];rcases hrr with ⟨r1,r2⟩|⟨l,l',r1,r2,hl⟩
   .simp only [r1,r2];exact iJ hI hf hc hkd (ah (Q:=QU) (ae _) (fun ρ1 l1 _ _ _=>aa (.of .skip))) S hd
   .simp only [r1,r2];exact iJ hI hf hc hkd (ah (pG hl) (fun ρ1 l1 _ _ _=>aa (.of .skip))) S hd
  |regionEnd a b=>simp only [];exact i6 S hf hc hkd hk
  | @inRegion ops l ho=>
   cases l with
   |nil=>simp only [];exact i6 S hf hc hkd hk
   |cons i l=>
    simp only [];rw [<-oo hf.tmps ops];by_cases hw:((ops[i]?).map (Region.wanted · (yielded ops fr.tmps))).getD false=true
    .simp only [hw,if_true];have hy:=oo hf.tmps ops;exact EB hZ hE hN hI hf hc hkd S hd (fun p m v=>by simp only [stepG,hm.1,stepG.exec,hx,hw,if_true]) (fun p m v=>by simp only [stepG,hm.2,stepG.exec,hx',<-hy,hw,if_true])
    .simp only [hw];exact Co ⟨hf.finish cW,hc,hkd.finish _ _,⟨rfl,rfl⟩,⟨rfl,rfl⟩,rfl,rfl⟩ S
  | @code c hcd=>
   cases c with
   |skip=>simp only [];exact i6 S hf hc hkd hk
   |label l=>simp only [];exact i6 S hf hc hkd hk
   |seq a b=>simp only [];simp only [aG,bT] at hcd;exact i6 S hf hc hkd (.cons (.code hcd.1) (.cons (.code hcd.2) hk))
   |block id b=>simp only [];exact i6 S hf hc hkd (.cons (.code hcd) (.cons (.inBlock id) hk))
   |loop b=>simp only [];exact i6 S hf hc hkd (.cons (.code hcd) (.cons (.inLoop hcd) hk))
   |scope b=>simp only [];exact i6 S hf hc hkd (.cons (.code hcd) (.cons (.inScope hcd) hk))
   |cond c a b=>
    simp only [aG,bT] at hcd;have hv:=hf.env hI c hcd.1.1;simp only [];generalize Frame.eval fr c=v at hv ⊢;generalize Frame.eval fr' c=v' at hv ⊢;cases hv with
    |bool x=>
     refine i6 S hf hc hkd (.cons (.code ?_) hk);cases x
     .exact hcd.2
     .exact hcd.1.2
    |_=>exact iT trivial trivial
   |rangeFunc f ps a b=>
    simp only [aG,bT] at hcd;simp only [];rename_i k k';have call_eq:∀ (e:Operand->Wx) (l:Nat),resolve e {callee:=.value f,args:=#[.const (.func (.yield l) #[] #[])],argTypes:=#[]} 0=Deferred.ofValue (e f) #[e (.const (.func (.yield l) #[] #[]))]:=fun e l=>by simp [resolve]
    have hrs:RS P QEn ρ (Instr.enterLoop fr.fn fr.tmps ps a b fr.roundOf) (Instr.enterLoop fr'.fn fr'.tmps ps a b fr'.roundOf):=by
     rw [<-hf.fn];exact qU fr.fn hf.tmps ps a b (by rw [hI.prog];exact hcd.1.2) (by rw [hI.prog];exact hcd.2) hf.round
    refine nh hrs S hd (F:=fun r es=>GStep.after (seen P fr.fn es) (match r with
     | .ok (l,mark) w=>stepG.apply P true {fr with todo:=.inRangeFunc l::k,defers:=mark++fr.defers} cs none (do
       let d <-resolve ({fr with todo:=.inRangeFunc l::k,defers:=mark++fr.defers}:Wy).eval {callee:=.value f,args:=#[.const (.func (.yield l) #[] #[])],argTypes:=#[]} 0
       invoke d.target d.args) w
     | .halt _ w => .ended (.stuck "range over a function: no such loop" (fr.pos P)) w)) (Fa := fun r es => GStep.after (seen P.alt fr.fn es) (match r with
     | .ok (l,mark) w=>stepG.apply P.alt true {fr with todo:=.inRangeFunc l::k,defers:=mark++fr.defers} cs none (do
       let d <-resolve ({fr with todo:=.inRangeFunc l::k,defers:=mark++fr.defers}:Wy).eval {callee:=.value f,args:=#[.const (.func (.yield l) #[] #[])],argTypes:=#[]} 0
       invoke d.target d.args) w
     | .halt _ w => .ended (.stuck "range over a function: no such loop" (fr.pos P.alt)) w)) (F' := fun r es => GStep.after (seen P fr'.fn es) (match r with
     | .ok (l,mark) w=>stepG.apply P true {fr' with todo:=.inRangeFunc l::k',defers:=mark++fr'.defers} cs' none (do
       let d <-resolve ({fr' with todo:=.inRangeFunc l::k',defers:=mark++fr'.defers}:Wy).eval {callee:=.value f,args:=#[.const (.func (.yield l) #[] #[])],argTypes:=#[]} 0
       invoke d.target d.args) w
     | .halt _ w => .ended (.stuck "range over a function: no such loop" (fr'.pos P)) w)) ?_ ?_ ?_
    .intro h u es hn;exact ⟨trivial,trivial⟩
    .intro ρ' u u' x y es es' R hq he;obtain ⟨l,mark⟩:=x;obtain ⟨l',mark'⟩:=y;obtain ⟨hl,hmk⟩:=hq;simp only at hl hmk;dsimp only;rw [dB hI];have hI':=hI.mono R.le;have hf1:=hf.mono R.le;have hf2:RFr P ρ' {fr with todo:=.inRangeFunc l::k,defers:=mark++fr.defers} {fr' with todo:=.inRangeFunc l'::k',defers:=mark'++fr'.defers}:=
      ⟨hf1.fn,hf1.tmps,.cons (.inRangeFunc hl) (hk.mono R.le),hmk.append hf1.defers,hf1.mode,hf1.early,hf1.round⟩
     have hv:=hf2.env hI' f (by rw [R.le.F];exact hcd.1.1);have hE':fD P ρ'.F:=by rw [R.le.F];exact hE
     have hy:RV ρ' (.func (.yield l) #[] #[]) (.func (.yield l') #[] #[]):=.func (.yield hl) rfl rfl (fun i v v' h=>by simp at h) (fun i v v' h=>by simp at h);have key:=iJ (s:=do
       let d <-resolve ({fr with todo:=.inRangeFunc l::k,defers:=mark++fr.defers}:Wy).eval {callee:=.value f,args:=#[.const (.func (.yield l) #[] #[])],argTypes:=#[]} 0
       invoke d.target d.args) (s':=do
       let d <-resolve ({fr' with todo:=.inRangeFunc l'::k',defers:=mark'++fr'.defers}:Wy).eval {callee:=.value f,args:=#[.const (.func (.yield l') #[] #[])],argTypes:=#[]} 0
       invoke d.target d.args) hI' hf2 (hc.mono R.le) hkd (ah (Q:=fun ρ d d'=>RD ρ d d') (by rw [call_eq,call_eq];exact oi hv (RVs.nil.push hy)) (fun ρ1 l1 d d' hd=>(km hZ (by rw [l1.F];exact hE') hN (hI'.mono l1) hd).imp (fun _ _ _ k=>.of k))) R.sim (R.same hd)
     refine ⟨aO _ key.mir,?_⟩;exact (key.rel.after (seen P fr.fn es) (E':=seen P fr'.fn es') (fun ρ2 l2 e h=>(he e (dP h)).mono l2)).trans R
    .intro ρ' u u' v v' es es' R hv he;exact ⟨iZ _ _ (Lost.noShp (Lost.after (x:=.ended _ _) trivial _)),.inl ⟨trivial,trivial⟩⟩
   |refuse why=>simp only [];exact iT trivial trivial
   |ret=>
    simp only [];rcases hrr with ⟨r1,r2⟩|⟨l,l',r1,r2,hl⟩
    .simp only [hx,hx',r1,r2,if_true] at hret ⊢;exact hret
    .simp only [r1,r2];exact mE hI m hf hc hkd (hne r1) S hd hl (some .ret) (fun c e=>by cases e;rfl)
   |exit id=>
    simp only [];rcases xm id hk with ⟨h1,h2⟩|⟨t,t',h1,h2,h3⟩
    .simp only [h1,h2,Option.elim];rcases hrr with ⟨r1,r2⟩|⟨l,l',r1,r2,hl⟩
     .simp only [r1,r2];exact iT trivial trivial
     .simp only [r1,r2];exact mE hI m hf hc hkd (hne r1) S hd hl (some (.exit id)) (fun c e=>by cases e;rfl)
    .simp only [h1,h2,Option.elim];exact i6 S hf hc hkd h3
   |goto l0=>
    simp only [];rcases xn l0 hk with ⟨h1,h2⟩|⟨t,t',h1,h2,h3⟩
    .simp only [h1,h2,Option.elim];rcases hrr with ⟨r1,r2⟩|⟨l,l',r1,r2,hl⟩
     .simp only [r1,r2];exact iT trivial trivial
     .simp only [r1,r2];exact mE hI m hf hc hkd (hne r1) S hd hl (some (.goto l0)) (fun c e=>by cases e;rfl)
    .simp only [h1,h2,Option.elim];exact i6 S hf hc hkd h3
   |region id ops draw=>
    simp only [];cases draw with
    |false=>simp only [Bool.not_false,if_true];exact i6 S hf hc hkd (.cons (.inRegion _ hcd) hk)
    |true=>
     simp only [Bool.not_true,Bool.false_eq_true,if_false];rename_i k k';refine gp (nh (db (.order fr.fn id)) S hd (F:=fun r _=>match r with
      | .ok t w=>.go {frame:={fr with todo:=.inRegion ops (Region.schedule (P.follows .mixedOrders) ops t)::k},callers:=cs,status:=.running,dying:=none} w
      | .halt _ w => .ended (.stuck "order" (fr.pos P)) w) (Fa := fun r _ => match r with
      | .ok t w=>.go {frame:={fr with todo:=.inRegion ops (Region.schedule (P.alt.follows .mixedOrders) ops t)::k},callers:=cs,status:=.running,dying:=none} w
      | .halt _ w => .ended (.stuck "order" (fr.pos P.alt)) w) (F' := fun r _ => match r with
      | .ok t w=>.go {frame:={fr' with todo:=.inRegion ops (Region.schedule (P.follows .mixedOrders) ops t)::k'},callers:=cs',status:=.running,dying:=none} w
      | .halt _ w => .ended (.stuck "order" (fr'.pos P)) w) ?_ ?_ ?_) (fun u => ?_) (fun u => ?_) ?_
     .intro h u es hn;exact ⟨trivial,trivial⟩
     .intro ρ' u u' x y es es' R hq he;cases hq;exact ⟨cE _ _ _,.inr (.inl ⟨rfl,.go _ ρ' R ⟨⟨hf.fn,hf.tmps.mono R.le,.cons (.inRegion _ (by rw [R.le.F];exact hcd)) (hk.mono R.le),hf.defers.mono R.le,hf.mode.mono R.le,hf.early,hf.round.mono R.le⟩,hc.mono R.le,hkd,⟨rfl,rfl⟩,⟨rfl,rfl⟩,rfl,rfl⟩ (fun e h=>by simp at h)⟩)⟩
     .intro ρ' u u' v v' es es' R hv he;exact ⟨iZ _ _ (Lost.noShp (x:=.ended _ _) trivial),.inl ⟨trivial,trivial⟩⟩
     .simp only [Sem.runT_fst];rfl
     .simp only [Sem.runT_fst];rfl
     .simp only [Sem.runT_fst,hf.fn];rfl
end
section
variable {P:Wv} [Two P] {ρ:Ren} {X:List Wy×List Wy} {w w':Wj}
theorem Cp {α:Type}:∀ (l:List α){ρ:Ren}(f f':α->Sem Wx),(∀ρ',ρ.le ρ'->∀a,RS P QV ρ' (f a) (f' a))->RS P (fun ρ x y=>RVs ρ x.toArray y.toArray) ρ (l.mapM f) (l.mapM f'):=by
 intro l;induction l with
 |nil=>intro ρ f f' _;simp only [List.mapM_nil];exact aa RVs.nil
 |cons x l ih=>
  intro ρ f f' hf;simp only [List.mapM_cons];refine ah (hf ρ (Ren.le_refl _) x) (fun ρ1 l1 b b' hb=>?_);refine ah (ih f f' (fun ρ' l'=>hf ρ' (Ren.le_trans l1 l'))) (fun ρ2 l2 bs bs' hbs=>aa ⟨by simpa using hbs.size,fun i v v' h1 h2=>?_⟩);cases i with
  |zero=>simp at h1 h2;subst h1;subst h2;exact hb.mono l2
  |succ i=>exact hbs.at_ i v v' (by simpa using h1) (by simpa using h2)
theorem ot (fn:Func){t t':Array Wx}(h:RVs ρ t t'):RS P QV ρ (results fn t) (results fn t'):=by
 unfold results;rw [Array.mapM_eq_mapM_toList,Array.mapM_eq_mapM_toList];refine ah (Q:=QVs) (ah (Cp _ _ _ (fun ρ' l r=>?_)) (fun c l1 x y b=>aa b)) (fun c l1 v v' hv=>aa ?_)
 .cases r with
  |tmp t=>exact aa ((h.mono l).getD t)
  |cell a t=>exact ah (qQ ((h.mono l).getD a)) (fun ρ2 l2 x x' hx=>oe t hx)
 .show RV c _ _;have hs:=hv.size;by_cases h1:v.size=1
  .have h2:v'.size=1:=by rw [<-hs];exact h1
   simp only [h1,h2,dite_true];exact hv.at_ 0 _ _ (eG (by omega)) (eG (by omega))
  .have h2:¬v'.size=1:=by rw [<-hs];exact h1
   simp only [h1,h2,dite_false];exact .tuple hv.size hv.at_
omit [Two P] in
theorem eF {p:Wv}{fr:Wy}{cs:List Wy}{d:Deferred}{z v:Wj}{a:Next}{es:Array Event}{g:Wk}(hx:((d.target matches .nil)&&(fr.mode matches .panicking _))=false)(h:(invoke d.target d.args).runT p z #[]=(.ok a v,es))
  (ha:match a with
   | .enter f args=>g={frame:=Frame.enter p f args .deferred,callers:=fr::cs,status:=.running,dying:=none}
   | .round l f t x y=>g={frame:=Frame.round l f t x y .deferred,callers:=fr::cs,status:=.running,dying:=none}
   | .value _| .skip| .defer _| .spawn _| .comm _ _ _=>g={frame:=fr,callers:=cs,status:=.running,dying:=none}
   |_=>False):callDeferred p fr cs none d z=.go g v (seen p fr.fn es):=by
 unfold callDeferred;refine (if_neg (fun hc=>absurd (hc.symm.trans hx) (by decide))).trans ?_;simp only [h];cases a<;>first|exact ha.elim|(subst ha;simp [GStep.after])
omit [Two P] in
theorem pL {p:Wv}{fr:Wy}{cs:List Wy}{d:Deferred}{z q:Wj}{v:Wx}{es:Array Event}(hx:((d.target matches .nil)&&(fr.mode matches .panicking _))=false)(h:(invoke d.target d.args).runT p z #[]=(.halt (.panic v) q,es)):callDeferred p fr cs none d z=.go {frame:=fr.raise [{v,recovered:=false}],callers:=cs,status:=.running,dying:=none} q (seen p fr.fn es):=by
 unfold callDeferred;refine (if_neg (fun hc=>absurd (hc.symm.trans hx) (by decide))).trans ?_;simp only [h];simp [GStep.after]
omit [Two P] in
theorem zz {p:Wv}{fr:Wy}{cs:List Wy}{d:Deferred}{z q:Wj}{x:Halt}{es:Array Event}(hn:eu x=true)(h:(invoke d.target d.args).runT p z #[]=(.halt x q,es)):Lost (callDeferred p fr cs none d z):=by
 by_cases hx:((d.target matches .nil)&&(fr.mode matches .panicking _))=true
 .have e:∃o,callDeferred p fr cs none d z=.ended o z:=⟨_,by unfold callDeferred;exact if_pos hx⟩;obtain ⟨o,e⟩:=e;rw [e];exact trivial
 .unfold callDeferred;refine Eq.mpr (congrArg Lost (if_neg hx)) ?_;simp only [h];refine Lost.after ?_ _;cases x with
  |stuck s=>exact trivial
  |unsupported x=>exact trivial
  |throw m=>show Lost (endThrow fr m q);unfold endThrow dieOf;exact ⟨⟨_,_,rfl,rfl,rfl⟩,rfl⟩
  |_=>simp [eu] at hn
theorem g7 (B:bM P)(C:fD P ρ.F)(A:bV P)(k:GId P ρ){fr fr':Wy}(hf:RFr P ρ fr fr'){cs j:List Wy}(hc:RFs P ρ X cs j)(hkd:Kd X fr fr' j){d d':Deferred}(r:RD ρ d d')(S:bI ρ w w')(hd:Same w w'):
  SF P ρ X w w' (fun u=>callDeferred P fr cs none d u) (fun u=>callDeferred P.alt fr cs none d u) (callDeferred P fr' j none d' w'):=by
 have hx:((d.target matches .nil)&&(fr.mode matches .panicking _))=((d'.target matches .nil)&&(fr'.mode matches .panicking _)):=by
  have h2:=hf.mode;generalize fr.mode=m at h2 ⊢;generalize fr'.mode=m' at h2 ⊢;cases r with
  |mk h1 _=>
   generalize d.target=t at h1 ⊢;generalize d'.target=t' at h1 ⊢;cases h1<;>cases h2<;>rfl
  |odd=>cases h2<;>rfl
 by_cases hn:((d.target matches .nil)&&(fr.mode matches .panicking _))=true
 .refine iT ?_ ?_
  .have e:∃o,callDeferred P fr cs none d w=.ended o w:=⟨_,by unfold callDeferred;exact if_pos hn⟩;obtain ⟨o,e⟩:=e;simp only [e];exact trivial
  .have e:∃o,callDeferred P.alt fr cs none d w=.ended o w:=⟨_,by unfold callDeferred;exact if_pos hn⟩;obtain ⟨o,e⟩:=e;simp only [e];exact trivial
 have c:((d.target matches .nil)&&(fr.mode matches .panicking _))=false:=by simpa using hn
 have hn2:=hx.symm.trans c;refine EA (km B C A k r) S hd ?_ ?_ ?_
 .intro h u es hno;exact ⟨fun hr=>zz hno hr,fun hr=>zz hno hr⟩
 .intro ρ' u u' a b es es' R hq he i;have hI':=k.mono R.le;have hf':=hf.mono R.le;have hc':=hc.mono R.le;have n:∀e∈seen P fr'.fn es',iF ρ' e:=fun e h=>he e (dP h)
  cases hq with
  | @enter f s a a' ha=>
   refine ⟨.go {frame:=Frame.enter P f a .deferred,callers:=fr::cs,status:=.running,dying:=none},seen P fr.fn es,fun z v hz=>eF c hz rfl,fun z v hz=>?_,?_⟩
   .rw [eF (p:=P.alt) c hz rfl,dB k,qZ hI' f s];rfl
   .rw [eF hn2 i rfl];exact .go _ ρ' R ⟨RFr.enter hI' f s _ rfl (by simp) ha,.cons hf' hkd hc',Kd.push hc' rfl,⟨rfl,rfl⟩,⟨rfl,rfl⟩,rfl,rfl⟩ n
  | @round l l' hl f t t' ht x y hx hy=>
   refine ⟨.go {frame:=Frame.round l f t x y .deferred,callers:=fr::cs,status:=.running,dying:=none},seen P fr.fn es,fun z v hz=>eF c hz rfl,fun z v hz=>?_,?_⟩
   .rw [eF (p:=P.alt) c hz rfl,dB k];rfl
   .rw [eF hn2 i rfl];rw [hI'.prog] at hx hy;exact .go _ ρ' R ⟨⟨rfl,ht,.cons (.code hx) (.cons .beginRound (.cons (.code hy) .nil)),.nil,.run,⟨rfl,rfl,by simp [Frame.round]⟩,.some hl⟩,.cons hf' hkd hc',Kd.push hc' rfl,⟨rfl,rfl⟩,⟨rfl,rfl⟩,rfl,rfl⟩ n
  |_=>
   refine ⟨.go {frame:=fr,callers:=cs,status:=.running,dying:=none},seen P fr.fn es,fun z v hz=>eF c hz rfl,fun z v hz=>?_,?_⟩
   .rw [eF (p:=P.alt) c hz rfl,dB k];rfl
   .rw [eF hn2 i rfl];exact .go _ ρ' R ⟨hf',hc',hkd,⟨rfl,rfl⟩,⟨rfl,rfl⟩,rfl,rfl⟩ n
 .intro ρ' u u' v v' es es' R hv he i;have n:∀e∈seen P fr'.fn es',iF ρ' e:=fun e h=>he e (dP h)
  refine ⟨.go {frame:=fr.raise [{v,recovered:=false}],callers:=cs,status:=.running,dying:=none},seen P fr.fn es,fun z q hz=>pL c hz,fun z q hz=>?_,?_⟩
  .rw [pL (p:=P.alt) c hz,dB k];rfl
  .rw [pL hn2 i];exact .go _ ρ' R ⟨(hf.mono R.le).raise1 hv,hc.mono R.le,hkd.raise _ _,⟨rfl,rfl⟩,⟨rfl,rfl⟩,rfl,rfl⟩ n
theorem nj (c:GId P ρ){f:FuncId}{a b:Func}(h1:P.alt.funcs[f]?=some a)(h2:P.funcs[f]?=some b)(t:Array Wx):results a t=results b t:=by
 have h:=c.same f;rw [h1,h2] at h;simp [strip] at h;unfold results;rw [h.2.2.2.2.2.2.2.1]
theorem ko (c:GId P ρ)(f:FuncId):P.alt.funcs[f]?=none↔P.funcs[f]?=none:=by
 have h:=c.same f;generalize P.alt.funcs[f]?=a at h;generalize P.funcs[f]?=b at h;cases a<;>cases b<;>simp at h ⊢
omit [Two P] in
theorem eN {fr fr':Wy}(hf:RFr P ρ fr fr')(p:Wv):fr.catches p=false/\fr'.catches p=false:=by
 have h:=hf.todo.no_call;unfold Frame.catches;constructor
 .split
  .rename_i d b r s k e;exact absurd e (h.1 _ _ _ _ _)
  .rfl
 .split
  .rename_i d b r s k e;exact absurd e (h.2 _ _ _ _ _)
  .rfl
theorem rf (hZ:bM P)(hE:fD P ρ.F)(hN:bV P)(hI:GId P ρ)(m:Bool){fr fr':Wy}(hf:RFr P ρ fr fr'){cs cs':List Wy}(hc:RFs P ρ X cs cs')(hkd:Kd X fr fr' cs')(hin:Base X fr cs')(S:bI ρ w w')(hd:Same w w'):
  SF P ρ X w w' (fun u=>unwind P m fr cs none u) (fun u=>unwind P.alt m fr cs none u) (unwind P m fr' cs' none w'):=by
 unfold unwind;have hds:=hf.defers;generalize hx:fr.defers=ds at hds;generalize hx':fr'.defers=ds' at hds;have hf2:=fun ds ds' (hl:RDs ρ ds ds')=>(⟨hf.fn,hf.tmps,hf.todo,hl,hf.mode,hf.early,hf.round⟩:RFr P ρ {fr with defers:=ds} {fr' with defers:=ds'})
 cases hds with
 | @cons d d' l l' h hl=>
  have h0:=h;cases h with
  |odd=>exact g7 hZ hE hN hI (hf2 _ _ hl) hc hkd h0 S hd
  |mk ht ha=>
   obtain ⟨t,a⟩:=d;obtain ⟨t',a'⟩:=d';simp only at ht;cases ht with
   | @collected r r' hr=>
    dsimp only;refine nh (nc hr) S hd (F:=fun x es=>GStep.after (seen P fr.fn es) (match x with
     | .ok calls w=>.go {frame:={fr with defers:=calls++l},callers:=cs,status:=.running,dying:=none} w
     | .halt _ w => .ended (.stuck "the deferred calls of a range-over-func loop have been taken" (fr.pos P)) w)) (Fa := fun x es => GStep.after (seen P.alt fr.fn es) (match x with
     | .ok calls w=>.go {frame:={fr with defers:=calls++l},callers:=cs,status:=.running,dying:=none} w
     | .halt _ w => .ended (.stuck "the deferred calls of a range-over-func loop have been taken" (fr.pos P.alt)) w)) (F' := fun x es => GStep.after (seen P fr'.fn es) (match x with
     | .ok calls w=>.go {frame:={fr' with defers:=calls++l'},callers:=cs',status:=.running,dying:=none} w
     | .halt _ w => .ended (.stuck "the deferred calls of a range-over-func loop have been taken" (fr'.pos P)) w)) ?_ ?_ ?_
    .intro h u es hn;exact ⟨trivial,trivial⟩
    .intro ρ' u u' x y es es' R hq he;dsimp only;rw [dB hI];have hf':=hf.mono R.le;exact ⟨aO _ (cE _ _ _),.inr (.inl ⟨rfl,.go _ ρ' R ⟨⟨hf'.fn,hf'.tmps,hf'.todo,hq.append (hl.mono R.le),hf'.mode,hf'.early,hf'.round⟩,hc.mono R.le,hkd,⟨rfl,rfl⟩,⟨rfl,rfl⟩,rfl,rfl⟩ (fun e h=>he e (dP (by simpa using h)))⟩)⟩
    .intro ρ' u u' v v' es es' R hv he;exact ⟨iZ _ _ (Lost.noShp (Lost.after (x:=.ended _ _) trivial _)),.inl ⟨trivial,trivial⟩⟩
   |_=>exact g7 hZ hE hN hI (hf2 _ _ hl) hc hkd h0 S hd
 |nil=>
  dsimp only;have hne:fr.mode≠.run->cs'≠X.2:=fun h e=>by
   rcases hin e with k|k
   .exact h k
   .exact k hx
  have hm:=hf.mode;generalize hmd:fr.mode=md at hm hne;generalize fr'.mode=md' at hm;cases hm with
  |run=>exact iT trivial trivial
  |panicking hp=>
   dsimp only;simp only [(eN hf P).1,(eN hf P).2,(eN hf P.alt).1,Bool.false_eq_true,if_false];have hne:=hne (by simp);cases hc with
   |cons hk hk2 hl=>exact Co ⟨hk.raise hp,hl,hk2.raise _ _,⟨rfl,rfl⟩,⟨rfl,rfl⟩,rfl,rfl⟩ S
   |base=>exact absurd rfl hne
  |returning=>
   dsimp only;have hne:=hne (by simp);rw [<-hf.fn];cases hfn:P.funcs[fr.fn]? with
   |none=>
    have hfa:=(ko hI fr.fn).2 hfn;simp only [hfa];have:=i7 m (Reach.refl S) hf hc hkd hne (hf.tmps.getD 0) #[] (E':=#[]) (fun e h=>by simp at h);simp only [cn] at this;exact ⟨this.1,this.2⟩
   |some fn=>
    cases hfa:P.alt.funcs[fr.fn]? with
    |none=>rw [(ko hI fr.fn).1 hfa] at hfn;cases hfn
    |some fa=>
     dsimp only;rw [nj hI hfa hfn];refine nh (ot fn hf.tmps) S hd (F:=fun x es=>GStep.after (seen P fr.fn es) (match x with
      | .ok v w=>doReturn P m fr cs none v w
      | .halt (.stuck s) w=>.ended (.stuck s (fr.pos P)) w
      | .halt _ w => .ended (.stuck "return: the result variables cannot be read" (fr.pos P)) w)) (Fa := fun x es => GStep.after (seen P.alt fr.fn es) (match x with
      | .ok v w=>doReturn P.alt m fr cs none v w
      | .halt (.stuck s) w=>.ended (.stuck s (fr.pos P.alt)) w
      | .halt _ w => .ended (.stuck "return: the result variables cannot be read" (fr.pos P.alt)) w)) (F' := fun x es => GStep.after (seen P fr.fn es) (match x with
      | .ok v w=>doReturn P m fr' cs' none v w
      | .halt (.stuck s) w=>.ended (.stuck s (fr'.pos P)) w
      | .halt _ w => .ended (.stuck "return: the result variables cannot be read" (fr'.pos P)) w)) ?_ ?_ ?_
     .intro h u es hn;have key:∀q:Wv,Lost (GStep.after (seen q fr.fn es) (match (Result.halt h u:Result Wx) with
       | .ok v w=>doReturn q m fr cs none v w
       | .halt (.stuck s) w=>.ended (.stuck s (fr.pos q)) w
       | .halt _ w => .ended (.stuck "return: the result variables cannot be read" (fr.pos q)) w)) := fun q => by cases h <;> exact trivial
      exact ⟨key P,key P.alt⟩
     .intro ρ' u u' x y es es' R hq he;dsimp only;rw [dB hI];exact i7 m R (hf.mono R.le) (hc.mono R.le) hkd hne hq (seen P fr.fn es) (E':=seen P fr.fn es') (fun e h=>he e (dP h))
     .intro ρ' u u' v v' es es' R hv he;exact ⟨iZ _ _ (Lost.noShp (Lost.after (x:=.ended _ _) trivial _)),.inl ⟨trivial,trivial⟩⟩
theorem iK (c:bM P)(e:fD P ρ.F)(b:bV P)(d:GId P ρ)(m:Bool){g g':Wk}(hg:RGo P ρ X g g')(hin:Base X g.frame g'.callers)(S:bI ρ w w')(hd:Same w w'):
  SF P ρ X w w' (fun u=>stepG P m g u) (fun u=>stepG P.alt m g u) (stepG P m g' w'):=by
 obtain ⟨fr,cs,st,dy,of⟩:=g;obtain ⟨fr',cs',st',dy',of'⟩:=g';obtain ⟨hf,hc,hkd,hst,⟨hd1,a⟩,ho⟩:=hg;simp only at hf hc hkd hst hd1 a ho hin;subst hd1;subst a;have hm:=hf.mode;cases h1:fr.mode<;>cases h2:fr'.mode<;>rw [h1,h2] at hm<;>cases hm
 .exact gp (EC c e b d m hf hc hkd hin S hd ⟨h1,h2⟩) (fun u=>by simp only [stepG,h1]) (fun u=>by simp only [stepG,h1]) (by simp only [stepG,h2])
 .exact gp (rf c e b d m hf hc hkd hin S hd) (fun u=>by simp only [stepG,h1]) (fun u=>by simp only [stepG,h1]) (by simp only [stepG,h2])
 .exact gp (rf c e b d m hf hc hkd hin S hd) (fun u=>by simp only [stepG,h1]) (fun u=>by simp only [stepG,h1]) (by simp only [stepG,h2])
end
def solo (g:Wk)(w:Wj):Machine:={world:=w,gs:=#[g],rest:={timers:=#[],alone:=none,slice:=none}}
def away:Wk:={(default:Wk) with status:=.finished}
section
variable {P:Wv} {g g' k:Wk} {w w':Wj} {es:Array Event}
theorem zB (h:g.status=.running):move P (solo g w)=.goroutine (solo g w) 0:=by
 simp [move,ask,askOn,solo,runnable_eq,due,ahead,Goroutine.canRun,h,List.range_succ,choose,pure,Sem.run,Question.forced]
theorem jB (h:g.status=.running):step P (solo g w)=(runT P (solo g w) 0).1:=by
 rw [step,stepT,zB h]
theorem ku (h:g.status=.running)(hs:stepG P true g w=.go g' w' es):step P (solo g w)=.next (solo g' w'):=by
 rw [jB h];simp [runT,solo,Array.swapAt!,hs]
theorem eO {o:Outcome}(h:g.status=.running)(hs:stepG P true g w=.ended o w' es):step P (solo g w)=.ended o w':=by
 rw [jB h];simp [runT,solo,Array.swapAt!,hs]
theorem xo (h:g.status=.running)(hs:stepG P true g w=.spawn g' k w' es):∃m,step P (solo g w)=.next m/\m.gs.size=2:=by
 rw [jB h];refine ⟨_,by simp [runT,solo,Array.swapAt!,hs];rfl,?_⟩;simp
theorem rh {c:CommCase}{b:Bool}{s:CommShape}(h:g.status=.running)(hs:stepG P true g w=.comm g' #[c] b s w' es):step P (solo g w)=(communicate P {timers:=#[],alone:=none,slice:=none} #[away] 0 g' #[c] b s w').1:=by
 rw [jB h];simp [runT,solo,Array.swapAt!,hs,away]
inductive LC (P:Wv)(g:Wk)(c:CommCase)(s:CommShape)(w:Wj):Wk->Wj->Prop
 |send {r cap sent rcvd:Nat} {buf:Array Wx} {tm:Bool} {v:Wx} (hc:c.chan=.chan (some r)) (hv:c.send=some v) (ho:w.heap[r]?=some (.chan cap buf false sent rcvd tm)) (hr:buf.size<cap):
   LC P g c s w (g.finishComm P #[c] s 0 Wo false) {w with heap:=w.heap.setIfInBounds r (.chan cap (buf.push v) false (sent+1) rcvd tm)}
 |recv {r cap sent rcvd:Nat} {buf:Array Wx} {cl tm:Bool} (hc:c.chan=.chan (some r)) (hv:c.send=none) (ho:w.heap[r]?=some (.chan cap buf cl sent rcvd tm)) (hr:0<buf.size):
   LC P g c s w (g.finishComm P #[c] s 0 (buf.getD 0 Wo) true) {w with heap:=w.heap.setIfInBounds r (.chan cap (buf.extract 1 buf.size) cl sent (rcvd+1) tm)}
 |shut {r cap sent rcvd:Nat} {tm:Bool} (hc:c.chan=.chan (some r)) (hv:c.send=none) (ho:w.heap[r]?=some (.chan cap #[] true sent rcvd tm)):
   LC P g c s w (g.finishComm P #[c] s 0 c.zero false) w
 |dead {r cap sent rcvd:Nat} {buf:Array Wx} {tm:Bool} {v:Wx} (hc:c.chan=.chan (some r)) (hv:c.send=some v) (ho:w.heap[r]?=some (.chan cap buf true sent rcvd tm)) (hg:g.status=.running):
   LC P g c s w { g with frame := g.frame.raise [{ v := .iface P.rt.plainError (strVal "send on closed channel"), recovered := false }] } w
theorem cq (r:Nat)(b:Bool):partners #[away] r b=[]:=by simp [partners,away]
theorem ri {c:CommCase}{s:CommShape}{m:Machine}(hg:g.status=.running)(h:(communicate P {timers:=#[],alone:=none,slice:=none} #[away] 0 g #[c] true s w).1=.next m):
  (∃g' w',LC P g c s w g' w'/\m=solo g' w')\/(m=solo {g with status:=.blocked,offers:=some (#[c],s)} w):=by
 obtain ⟨ch,a,z⟩:=c;have hw:waitingAt {timers:=#[],alone:=none,slice:=none} #[⟨ch,a,z⟩] w=some w:=by
  unfold waitingAt timerAhead;cases ch with
  |chan o=>cases o<;>simp
  |_=>simp
 have hx:waitingAt {timers:=#[],alone:=none,slice:=none} #[(⟨ch,a,z⟩:CommCase)] w=some w:=hw;cases ch with
 |chan o=>
  cases o with
  |none=>
   right
   simp [communicate,ways,hx] at h;exact h.symm
  |some r=>
   cases ho:w.heap[r]? with
   |none=>simp [communicate,ho] at h
   |some o=>
    cases o with
    |chan cap buf cl sent rcvd tm=>
     cases a with
     |some v=>
      cases cl with
      |true=>
       left
       simp [communicate,ways,ho,choose,Sem.run,Question.forced,bind,Sem.bind,pure,runtimePanic,goPanic,program] at h;exact ⟨_,_,.dead rfl rfl ho hg,h.symm⟩
      |false=>
       by_cases hr:buf.size<cap
       .left
        simp [communicate,ways,ho,cq,hr,choose,Sem.run,Question.forced,bind,Sem.bind,pure] at h;exact ⟨_,_,.send rfl rfl ho hr,h.symm⟩
       .right
        simp [communicate,ways,ho,cq,hr,hx] at h;exact h.symm
     |none=>
      by_cases hr:0<buf.size
      .left
       simp [communicate,ways,ho,cq,hr,choose,Sem.run,Question.forced,bind,Sem.bind,pure] at h;refine ⟨_,_,.recv rfl rfl ho hr,?_⟩;rw [<-h];simp [solo,hr]
      .have hb:buf=#[]:=Array.eq_empty_of_size_eq_zero (by omega);subst hb;cases cl with
       |true=>
        left
        simp [communicate,ways,ho,cq,choose,Sem.run,Question.forced,bind,Sem.bind,pure] at h;exact ⟨_,_,.shut rfl rfl ho,h.symm⟩
       |false=>
        right
        simp [communicate,ways,ho,cq,hx] at h;exact h.symm
    |_=>simp [communicate,ho] at h
 |_=>simp [communicate] at h
theorem g8 (h:g.status=.blocked):∃o u,step P (solo g w)=.ended o u:=by
 have hm:∃o u,move P (solo g w)=.machine (.ended o u):=by
  simp [move,ask,askOn,solo,runnable_eq,due,ahead,Goroutine.canRun,h,List.range_succ,pure];split
  .exact ⟨_,_,rfl⟩
  .exact ⟨_,_,rfl⟩
 obtain ⟨o,u,hm⟩:=hm;exact ⟨o,u,by rw [step,stepT,hm]⟩
end
theorem ub {P:Wv}{m:Bool}{g:Wk}(h:ra g)(w:Wj):(∃o u es,stepG P m g w=.ended o u es)\/∃g' u es,stepG P m g w=.go g' u es/\ra g'/\(g'.status=.running\/g'.status=.blocked):=by
 obtain ⟨fr,cs,st,dy,of⟩:=g;obtain ⟨d,f,h1,h2,h3⟩:=h;simp only at h1;subst h1;have e:stepG P m ⟨fr,cs,st,some d,of⟩ w=die P fr d w:=by
  obtain ⟨a,b,c,e,f,i,j⟩:=d;simp only at h2;subst h2;simp only [stepG]
 rw [e];unfold die;simp only [h3];unfold writeOn;dsimp only;split
 .exact .inl ⟨_,_,_,rfl⟩
 .split
  .exact .inr ⟨_,_,_,rfl,⟨_,_,rfl,h2,rfl⟩,.inl rfl⟩
  .exact .inr ⟨_,_,_,rfl,⟨_,_,rfl,h2,rfl⟩,.inr rfl⟩
  .exact .inl ⟨_,_,_,rfl⟩
  .exact .inl ⟨_,_,_,rfl⟩
theorem xq {P:Wv}:∀ (n:Nat)(g g':Wk)(w w':Wj),ra g->(g.status=.running\/g.status=.blocked)->runN P n (solo g w)=.next (solo g' w')->ra g':=by
 intro n;induction n with
 |zero=>
  intro g g' w w' hd _ h;simp only [runN,Stepped.next.injEq] at h;have:#[g]=#[g']:=congrArg Machine.gs h;simp at this;exact this▸hd
 |succ n ih=>
  intro g g' w w' hd hs h;simp only [runN] at h;rcases hs with hs|hs
  .rcases ub (P:=P) (m:=true) hd w with ⟨o,u,es,e⟩|⟨g1,u,es,e,hd1,hs1⟩
   .rw [eO hs e] at h;simp at h
   .rw [ku hs e] at h;exact ih g1 g' u w' hd1 hs1 h
  .obtain ⟨o,u,e⟩:=g8 (P:=P) (w:=w) hs;rw [e] at h;simp at h
theorem zC {P:Wv}:∀ (n:Nat)(m m':Machine),runN P n m=.next m'->m.gs.size<=m'.gs.size:=by
 intro n;induction n with
 |zero=>intro m m' h;simp only [runN,Stepped.next.injEq] at h;rw [h];exact lR _
 |succ n ih=>
  intro m m' h;simp only [runN] at h;cases hs:step P m with
  |next m1=>
   rw [hs] at h;exact lT (stepT_size P m m1 true hs) (ih m1 m' h)
  |ended o w=>rw [hs] at h;simp at h
inductive LS (P:Wv)(g:Wk)(w:Wj):Wk->Wj->Prop
 |go {g':Wk} {w':Wj} {es:Array Event} (h:stepG P true g w=.go g' w' es) (hr:g'.status=.running) (hd:g'.dying=none):LS P g w g' w'
 |comm {g1:Wk} {c:CommCase} {s:CommShape} {w1:Wj} {es:Array Event} {g':Wk} {w':Wj} (h:stepG P true g w=.comm g1 #[c] true s w1 es) (hc:LC P g1 c s w1 g' w'):LS P g w g' w'
theorem LS.fn {P:Wv}{g:Wk}{w:Wj}{a b:Wk}{u v:Wj}(h:LS P g w a u)(k:LS P g w b v):a=b/\u=v:=by
 cases h with
 |go h hr hd=>
  cases k with
  |go k c kd=>rw [h] at k;cases k;exact ⟨rfl,rfl⟩
  |comm k kc=>rw [h] at k;cases k
 |comm h hc=>
  cases k with
  |go k c kd=>rw [h] at k;cases k
  |comm k kc=>
   rw [h] at k;cases k;cases hc with
   |send h1 h2 h3 h4=>
    cases kc with
    |send k1 k2 k3 k4=>rw [h1] at k1;cases k1;rw [h3] at k3;cases k3;rw [h2] at k2;cases k2;exact ⟨rfl,rfl⟩
    |recv k1 k2 k3 k4=>rw [h2] at k2;cases k2
    |shut k1 k2 k3=>rw [h2] at k2;cases k2
    |dead k1 k2 k3=>rw [h1] at k1;cases k1;rw [h3] at k3;cases k3
   |recv h1 h2 h3 h4=>
    cases kc with
    |send k1 k2 k3 k4=>rw [h2] at k2;cases k2
    |recv k1 k2 k3 k4=>rw [h1] at k1;cases k1;rw [h3] at k3;cases k3;exact ⟨rfl,rfl⟩
    |shut k1 k2 k3=>rw [h1] at k1;cases k1;rw [h3] at k3;cases k3;simp at h4
    |dead k1 k2 k3=>rw [h2] at k2;cases k2
   |shut h1 h2 h3=>
    cases kc with
    |send k1 k2 k3 k4=>rw [h2] at k2;cases k2
    |recv k1 k2 k3 k4=>rw [h1] at k1;cases k1;rw [h3] at k3;cases k3;simp at k4
    |shut k1 k2 k3=>exact ⟨rfl,rfl⟩
    |dead k1 k2 k3=>rw [h2] at k2;cases k2
   |dead h1 h2 h3=>
    cases kc with
    |send k1 k2 k3 k4=>rw [h1] at k1;cases k1;rw [h3] at k3;cases k3
    |recv k1 k2 k3 k4=>rw [h2] at k2;cases k2
    |shut k1 k2 k3=>rw [h2] at k2;cases k2
    |dead k1 k2 k3=>exact ⟨rfl,rfl⟩
inductive Dem (P:Wv)(N T:Wk->Wj->Prop):Wk->Wj->Prop
 |stop {g:Wk} {w:Wj} (h:T g w):Dem P N T g w
 |step {g:Wk} {w:Wj} (hN:N g w) (hT:¬T g w) (h:∀τ d,∃g' w',LS P g (w.on τ d) g' w') (hn:∀τ d g' w',LS P g (w.on τ d) g' w'->Dem P N T g' w'):Dem P N T g w
theorem Dem.imp {P:Wv}{N N' T:Wk->Wj->Prop}(c:∀g w,N g w->N' g w){g:Wk}{w:Wj}(h:Dem P N T g w):Dem P N' T g w:=by
 induction h with
 |stop h=>exact .stop h
 |step a b h _ ih=>exact .step (c _ _ a) b h ih
inductive Pth (P:Wv)(N T:Wk->Wj->Prop):Wk->Wj->Prop
 |stop {g:Wk} {w:Wj} (h:T g w):Pth P N T g w
 |step {g g':Wk} {w w':Wj} (hN:N g w) (hT:¬T g w) (h:LS P g w g' w') (hp:Pth P N T g' w'):Pth P N T g w
def All (P:Wv)(N T:Wk->Wj->Prop)(g:Wk)(w:Wj):Prop:=∀τ d,Pth P N T g (w.on τ d)
structure Way (P:Wv)(N T:Wk->Wj->Prop):Prop where
 mir:∀g w,N g w->tz w (fun u=>stepG P true g u)
 on:∀g w τ d,N g w->N g (w.on τ d)
 tape:∀g w τ d,T g (w.on τ d)↔T g w
theorem zD (w:Wj)(τ a:Nat->Question->Nat)(d d':Nat):(w.on τ d).on a d'=w.on a d':=rfl
theorem LC.on {P:Wv}{g g':Wk}{c:CommCase}{s:CommShape}{w w':Wj}(h:LC P g c s w g' w')(τ:Nat->Question->Nat)(d:Nat):LC P g c s (w.on τ d) g' (w'.on τ d):=by
 cases h with
 |send h1 h2 h3 h4=>exact .send h1 h2 h3 h4
 |recv h1 h2 h3 h4=>exact .recv h1 h2 h3 h4
 |shut h1 h2 h3=>exact .shut h1 h2 h3
 |dead h1 h2 h3 h4=>exact .dead h1 h2 h3 h4
theorem LC.tape {P:Wv}{g g':Wk}{c:CommCase}{s:CommShape}{w w':Wj}(h:LC P g c s w g' w'):w'.tape=w.tape/\w'.drawn=w.drawn:=by
 cases h<;>exact ⟨rfl,rfl⟩
theorem LS.two {P:Wv}{g g':Wk}{w w':Wj}(hm:tz w (fun u=>stepG P true g u))(h:LS P g w g' w'):w'.tape=w.tape/\w.drawn<=w'.drawn/\∀τ d,Like w w' τ d->LS P g (w.on τ d) g' (w'.on τ (d+(w'.drawn-w.drawn))):=by
 cases h with
 |go h hr hd=>
  obtain ⟨h1,h2,h3⟩:=hm (.go g') w' _ hd h;exact ⟨h1,h2,fun τ d hl=>.go (h3 τ d hl) hr hd⟩
 | @comm g1 c s w1 es _ _ h hc=>
  obtain ⟨h1,h2,h3⟩:=hm (.comm g1 #[c] true s) w1 _ trivial h;obtain ⟨k1,k2⟩:=hc.tape;refine ⟨k1.trans h1,by omega,fun τ d hl=>?_⟩;rw [k2];exact .comm (h3 τ d (fun i hi=>hl i (by omega))) (hc.on _ _)
theorem Way.many {P:Wv}{N T:Wk->Wj->Prop}(W:Way P N T){g:Wk}{w:Wj}(h:Pth P N T g w):∀τ d,(∀i,τ (d+i)=w.tape (w.drawn+i))->Pth P N T g (w.on τ d):=by
 induction h with
 |stop h=>intro τ d _;exact .stop ((W.tape _ _ _ _).2 h)
 | @step g g' w w' a b h _ ih=>
  intro τ d hl;obtain ⟨h1,h2,h3⟩:=h.two (W.mir _ _ a);refine .step (W.on _ _ _ _ a) (fun k=>b ((W.tape _ _ _ _).1 k)) (h3 τ d (fun i _=>hl i)) (ih τ _ (fun i=>?_));have:=hl (w'.drawn-w.drawn+i);rw [show d+(w'.drawn-w.drawn)+i=d+(w'.drawn-w.drawn+i) by omega,this,h1,show w.drawn+(w'.drawn-w.drawn+i)=w'.drawn+i by omega]
def join (τ a:Nat->Question->Nat)(m d':Nat):Nat->Question->Nat:=fun i=>if i<m then τ i else a (d'+(i-m))
theorem Way.all_step {P:Wv}{N T:Wk->Wj->Prop}(W:Way P N T){g g':Wk}{w w':Wj}{τ:Nat->Question->Nat}{d:Nat}(hA:All P N T g w)(e:¬T g w)(h:LS P g (w.on τ d) g' w'):All P N T g' w':=by
 intro a d';have hp0:=hA τ d;have c:N g (w.on τ d):=by
  cases hp0 with
  |stop k=>exact absurd ((W.tape _ _ _ _).1 k) e
  |step f _ _ _=>exact f
 obtain ⟨h1,h2,h3⟩:=h.two (W.mir _ _ c);have hl:Like (w.on τ d) w' (join τ a w'.drawn d') d:=fun i j=>by
  have:d+i<w'.drawn:=j;show (if d+i<w'.drawn then _ else _)=_;rw [if_pos this];rfl
 have h4:=h3 _ d hl;rw [zD] at h4;have hd2:d<=w'.drawn:=h2;have hp:=hA (join τ a w'.drawn d') d;cases hp with
 |stop k=>exact absurd ((W.tape _ _ _ _).1 k) e
 |step _ _ b hp=>
  obtain ⟨rfl,rfl⟩:=b.fn h4;have:=W.many hp a d' (fun i=>by
   show a (d'+i)=(if d+(w'.drawn-d)+i<w'.drawn then _ else a (d'+(d+(w'.drawn-d)+i-w'.drawn)));rw [if_neg (by omega)];congr 1;omega)
  rw [zD] at this;exact this
structure Bad (P:Wv)(N T:Wk->Wj->Prop)(x:Wk×Wj):Prop where
 all:All P N T x.1 x.2
 not:¬Dem P N T x.1 x.2
theorem Way.bad_next {P:Wv}{N T:Wk->Wj->Prop}(W:Way P N T)(x:{x:Wk×Wj // Bad P N T x}):
  ∃ (τ:Nat->Question->Nat) (d:Nat) (y:{x:Wk×Wj // Bad P N T x}),N x.1.1 (x.1.2.on τ d)/\LS P x.1.1 (x.1.2.on τ d) y.1.1 y.1.2:=by
 obtain ⟨⟨g,w⟩,hA,c⟩:=x;simp only at hA c;have e:¬T g w:=fun h=>c (.stop h)
 have a:∀τ d,N g (w.on τ d)/\∃g' w',LS P g (w.on τ d) g' w':=fun τ d=>by
  have:=hA τ d;cases this with
  |stop k=>exact absurd ((W.tape _ _ _ _).1 k) e
  |step c _ h _=>exact ⟨c,_,_,h⟩
 have f:∃τ d g' w',LS P g (w.on τ d) g' w'/\¬Dem P N T g' w':=by
  refine Classical.byContradiction fun hc=>c (.step (a w.tape w.drawn).1 e (fun τ d=>(a τ d).2) fun τ d g' w' h=>Classical.byContradiction fun b=>hc ⟨τ,d,g',w',h,b⟩)
 obtain ⟨τ,d,g',w',h,b⟩:=f;exact ⟨τ,d,⟨(g',w'),⟨W.all_step hA e h,b⟩⟩,(a τ d).1,h⟩
theorem Way.dem {P:Wv}{N T:Wk->Wj->Prop}(W:Way P N T){g:Wk}{w:Wj}(hA:All P N T g w):Dem P N T g w:=by
 classical
 refine Classical.byContradiction fun q=>?_
 have hb:=W.bad_next;obtain ⟨l,c,nx,f⟩:∃ (l:{x:Wk×Wj // Bad P N T x}->Nat->Question->Nat) (c:{x:Wk×Wj // Bad P N T x}->Nat) (nx:{x:Wk×Wj // Bad P N T x}->{x:Wk×Wj // Bad P N T x}),∀x,N x.1.1 (x.1.2.on (l x) (c x))/\LS P x.1.1 (x.1.2.on (l x) (c x)) (nx x).1.1 (nx x).1.2:=
  ⟨fun x=>(hb x).choose,fun x=>(hb x).choose_spec.choose,fun x=>(hb x).choose_spec.choose_spec.choose,fun x=>(hb x).choose_spec.choose_spec.choose_spec⟩
 let a:Nat->{x:Wk×Wj // Bad P N T x}:=fun k=>Nat.rec ⟨(g,w),⟨hA,q⟩⟩ (fun _ x=>nx x) k
 have sq0:a 0=⟨(g,w),⟨hA,q⟩⟩:=rfl;have o:∀k,a (k+1)=nx (a k):=fun k=>rfl
 let m:Nat->Nat:=fun k=>(a (k+1)).1.2.drawn-c (a k)
 let S:Nat->Nat:=fun k=>Nat.rec 0 (fun j n=>n+m j) k
 have Ss:∀k,S (k+1)=S k+m k:=fun k=>rfl
 have d:∀j k,j<=k->S j<=S k:=fun j k h=>by
  induction h with
  |refl=>exact lR _
  |step _ ih=>rw [Ss];omega
 let τ:Nat->Question->Nat:=fun i=>if h:∃k,S k<=i/\i<S (k+1) then l (a h.choose) (c (a h.choose)+(i-S h.choose)) else fun _=>0
 have hτ:∀k i,i<m k->τ (S k+i)=l (a k) (c (a k)+i):=fun k i r=>by
  have b:∃k',S k'<=S k+i/\S k+i<S (k'+1):=⟨k,by omega,by rw [Ss];omega⟩;have hk:b.choose=k:=by
   obtain ⟨c1,c2⟩:=b.choose_spec;rcases Nat.lt_trichotomy b.choose k with h|h|h
   .have:=d (b.choose+1) k h;omega
   .exact h
   .have:=d (k+1) b.choose h;rw [Ss] at this;omega
  show (if h:∃k',S k'<=S k+i/\S k+i<S (k'+1) then l (a h.choose) (c (a h.choose)+(S k+i-S h.choose)) else fun _=>0)=_;rw [dif_pos b,hk];congr 1;omega
 have p:∀k,LS P (a k).1.1 ((a k).1.2.on τ (S k)) (a (k+1)).1.1 ((a (k+1)).1.2.on τ (S (k+1))):=fun k=>by
  obtain ⟨hn,h⟩:=f (a k);rw [<-o] at h;obtain ⟨-,-,h3⟩:=h.two (W.mir _ _ hn);have:=h3 τ (S k) (fun i r=>by
   have hi':c (a k)+i<(a (k+1)).1.2.drawn:=r;have:i<m k:=by show i<(a (k+1)).1.2.drawn-c (a k);omega
   exact hτ k i this)
  rw [zD] at this;exact this
 have e:∀ (g':Wk) (w':Wj),Pth P N T g' w'->∀k,g'=(a k).1.1->w'=(a k).1.2.on τ (S k)->False:=by
  intro g' w' hp;induction hp with
  |stop h=>intro k e1 e2;subst e1;subst e2;exact (a k).2.not (.stop ((W.tape _ _ _ _).1 h))
  |step _ _ h _ ih=>
   intro k e1 e2;subst e1;subst e2;obtain ⟨e3,e4⟩:=h.fn (p k);exact ih (k+1) e3 e4
 exact e g (w.on τ 0) (hA τ 0) 0 rfl rfl
def trap (P : Wv) : Wy := { fn := P.funcs.size, tmps := #[], todo := [.code (.refuse "")], defers := [{ target := .nil, args := #[] }], mode := .run, kind := .normal }
def Self (P:Wv) [Two P](X:List Wy×List Wy)(A:Nat->Prop)(G:FuncId->Bool)(g:Wk)(w:Wj):Prop:=
 g.status=.running/\∃ρ g' w',RGo P ρ X g g'/\bI ρ w w'/\GId P ρ/\fD P ρ.F/\ρ.loose=false/\ρ.wide=false/\(ρ.ch=A/\(∀c,A c->∃b,ρ c b)/\ρ.F=G)/\(∀c,¬ρ.old c)/\(∀f,¬Mk ρ.F f=true)
def NB (X:List Wy)(g:Wk):Prop:=g.callers=X->g.frame.mode=.run\/g.frame.defers≠[]
section
variable {P:Wv} [Two P] {X:List Wy×List Wy} {A:Nat->Prop} {G:FuncId->Bool} {g g':Wk} {w w':Wj}
omit [Two P] in
theorem RFs.tail {ρ:Ren}{l l':List Wy}(h:RFs P ρ X l l')(e:l'=X.2):l=X.1:=by
 cases h with
 |base=>rfl
 |cons _ _ hl=>exact absurd e hl.ne
omit [Two P] in
theorem bI.onL {ρ:Ren}{w w':Wj}(S:bI ρ w w')(τ:Nat->Question->Nat)(d:Nat):bI ρ (w.on τ d) w':=⟨S.obj,S.fix,S.chan,S.os,S.pin⟩
omit [Two P] in
theorem bI.onR {ρ:Ren}{w w':Wj}(S:bI ρ w w')(τ:Nat->Question->Nat)(d:Nat):bI ρ w (w'.on τ d):=⟨S.obj,S.fix,S.chan,S.os,S.pin⟩
theorem Self.on (h:Self P X A G g w)(τ:Nat->Question->Nat)(d:Nat):Self P X A G g (w.on τ d):=by
 obtain ⟨hr,ρ,g',w',h1,h2,h3⟩:=h;exact ⟨hr,ρ,g',w',h1,h2.onL _ _,h3⟩
omit [Two P] in
theorem dz {ρ:Ren}{g g':Wk}(h:RGo P ρ X g g'){c c':CommCase}(_hc:RC ρ c c')(s:CommShape)(hs:(c.send.isSome=true/\s=.send)\/(c.send=none/\∃ok,s=.recv ok)){v v':Wx}(hv:RV ρ v v')(ok:Bool):RGo P ρ X (g.finishComm P #[c] s 0 v ok) (g'.finishComm P #[c'] s 0 v' ok):=by
 have a:RV ρ (commResult #[c] s 0 v ok) (commResult #[c'] s 0 v' ok):=by
  rcases hs with ⟨_,rfl⟩|⟨_,o,rfl⟩
  .exact cW
  .cases o with
   |false=>exact hv
   |true=>
    have:=(RVs.nil.push hv).push (RV.bool ok);exact .tuple this.size this.at_
 exact ⟨h.frame.finish a,h.callers,h.kind.finish _ _,⟨rfl,rfl⟩,h.dying,rfl,rfl⟩
theorem Self.step (hZ:bM P)(hN:bV P)(h:Self P X A G g w)(hb:NB X.1 g)(hl:LS P g w g' w'):Self P X A G g' w':=by
 obtain ⟨hr,ρ,k,u,hG,S,hI,hE,ho,hwi,⟨hch,hcb,hFG⟩,hold,hmk⟩:=h;have hin:Base X g.frame k.callers:=fun e=>hb (hG.callers.tail e)
 have sf:=iK hZ hE hN hI true hG hin (S.onR w.tape w.drawn) (fun i=>rfl);rcases sf.rel with ⟨h1,-⟩|⟨-,h2⟩|⟨f,_,_,_,_,_,_,_,_,_,_,_,A⟩
 rotate_left 2
 .exact absurd A.mark (hmk f)
 .cases hl with
  |go h hr hd=>
   rw [h] at h1;obtain ⟨⟨d,f,e,-⟩,-⟩:=h1;rw [hd] at e;cases e
  |comm h _=>rw [h] at h1;exact h1.elim
 .cases hl with
  |go h hr hd=>
   rw [h] at h2;generalize stepG P true k (u.on w.tape w.drawn)=y at h2;cases h2 with
   |go es ρ' R hg he=>exact ⟨hr,ρ',_,_,hg,R.sim,hI.mono R.le,by rw [R.le.F];exact hE,R.le.loose.trans ho,R.le.wide.trans hwi,⟨R.le.ch.trans hch,(fun c k=>(hcb c k).imp fun b=>R.le _ _),R.le.F.trans hFG⟩,by rw [R.le.old];exact hold,by rw [R.le.F];exact hmk⟩
  | @comm g1 c s w1 es _ _ h hc=>
   rw [h] at h2;generalize stepG P true k (u.on w.tape w.drawn)=y at h2;cases h2 with
   | @comm _ k1 _ c' _ _ hs hrun _ u1 _ es' ρ' R hg hcc he _=>
    have hlo:ρ'.loose=false:=R.le.loose.trans ho;have hwi':ρ'.wide=false:=R.le.wide.trans hwi;have hch':ρ'.ch=A/\(∀c,A c->∃b,ρ' c b)/\ρ'.F=G:=⟨R.le.ch.trans hch,(fun c k=>(hcb c k).imp fun b=>R.le _ _),R.le.F.trans hFG⟩;have hold':∀c,¬ρ'.old c:=by rw [R.le.old];exact hold
    have fin:∀ (v v':Wx) (ok:Bool) (z z':Wj),RV ρ' v v'->bI ρ' z z'->Self P X A G (g1.finishComm P #[c] s 0 v ok) z:=fun v v' ok z z' hv hz=>
     ⟨rfl,ρ',_,z',dz hg hcc s hs hv ok,hz,hI.mono R.le,by rw [R.le.F];exact hE,hlo,hwi',hch',hold',by rw [R.le.F];exact hmk⟩
    have S':=R.sim;have rel:∀r cap buf cl sent rcvd tm,c.chan=.chan (some r)->w1.heap[r]?=some (.chan cap buf cl sent rcvd tm)->∃r' cap' buf' sent' rcvd',ρ' r r'/\RVs ρ' buf buf'/\∀ (b b':Array Wx) (s2 q2:Nat),RVs ρ' b b'->bI ρ' {w1 with heap:=w1.heap.setIfInBounds r (.chan cap b cl s2 q2 tm)} {u1 with heap:=u1.heap.setIfInBounds r' (.chan cap' b' cl sent' rcvd' tm)}:=fun r cap buf cl sent rcvd tm e eo=>by
     have:=hcc.chan;rw [e] at this;generalize c'.chan=q at this;cases this with
     |chan h=>
      cases h with
      | @some _ r' h=>
       obtain ⟨o,o',k1,k2,k3⟩:=S'.obj _ _ h;rw [eo] at k1;cases k1;cases k3 with
       | @chan _ cap' _ b' cl' _ _ _ s' q' _ hb hcl=>
        have hbb:RVs ρ' buf b':=by
         rcases hb with hb|hb
         .rw [hlo] at hb;cases hb
         .exact hb
        obtain rfl:=hcl.resolve_left (by rw [hwi'];exact fun h=>by cases h);exact ⟨r',cap',b',s',q',h,hbb,fun b b2 s2 q2 hb2=>S'.put h (.chan _ _ _ _ _ _ _ _ _ (.inr hb2) (.inr rfl)) (hold' r) (fun _=>rfl) (fun _ _ _ k=>by rw [eo] at k;cases k)⟩
    cases hc with
    | @send r cap sent rcvd buf tm v h1 h2 h3 h4=>
     obtain ⟨r',cap',buf',s',q',k1,k2,k3⟩:=rel r _ _ _ _ _ _ h1 h3;rcases hcc.send with ⟨e,-⟩|⟨v1,v2,e1,e2,hv⟩
     .rw [h2] at e;cases e
     .rw [h2] at e1;cases e1;exact fin _ _ false _ _ cW (k3 _ _ _ _ (k2.push hv))
    | @recv r cap sent rcvd buf cl tm h1 h2 h3 h4=>
     obtain ⟨r',cap',buf',s',q',k1,k2,k3⟩:=rel r _ _ _ _ _ _ h1 h3;exact fin _ _ true _ _ (k2.getD 0) (k3 _ _ _ _ (k2.extract 1 buf.size))
    |shut h1 h2 h3=>exact fin _ _ false _ _ hcc.zero S'
    |dead h1 h2 h3=>
     exact ⟨hrun.1, ρ', { k1 with frame := k1.frame.raise [{ v := .iface P.rt.plainError (strVal "send on closed channel"), recovered := false }] }, u1, ⟨hg.frame.raise1 (.iface _ (.string _)), hg.callers, hg.kind.raise _ _, hg.status, hg.dying, hg.offers⟩, S', hI.mono R.le, by rw [R.le.F]; exact hE, hlo, hwi', hch', hold', by rw [R.le.F]; exact hmk⟩
def jC (P:Wv) [Two P](X:List Wy×List Wy)(A:Nat->Prop)(G:FuncId->Bool)(g:Wk)(w:Wj):Prop:=Self P X A G g w/\NB X.1 g
theorem jC.mir (c:bM P)(b:bV P)(h:jC P X A G g w):tz w (fun u=>stepG P true g u):=by
 obtain ⟨⟨hr,ρ,k,u,a,S,d,f,ho,hwi,⟨hch,hcb,hFG⟩,hold,hmk⟩,hb⟩:=h;have hin:Base X g.frame k.callers:=fun e=>hb (a.callers.tail e)
 exact (iK c f b d true a hin (S.onR w.tape w.drawn) (fun i=>rfl)).mir
omit [Two P] in
theorem rj {f:Wy}(hf:f=trap P\/∃c,f=(trap P).raise c)(w:Wj):∃o u es,stepG P true {frame:=f,callers:=[],status:=.running,dying:=none} w=.ended o u es:=by
 rcases hf with rfl|⟨c,rfl⟩
 .exact ⟨_,_,_,rfl⟩
 .exact ⟨_,_,_,rfl⟩
omit [Two P] in
theorem i8 (fr:Wy)(hk:(fr.kind == .early)=false)(v:Wx)(w:Wj):∃f1,doReturn P true fr [trap P] none v w=.go {frame:=f1,callers:=[],status:=.running,dying:=none} w/\(f1=trap P\/∃c,f1=(trap P).raise c):=by
 unfold doReturn;cases h:fr.kind with
 |early=>rw [h] at hk;simp at hk
 |normal=>exact ⟨_,rfl,.inl rfl⟩
 |wrapped=>exact ⟨_,rfl,.inl rfl⟩
 |deferred=>exact ⟨_,rfl,.inl rfl⟩
 |report=>exact ⟨_,rfl,.inl rfl⟩
omit [Two P] in
theorem zE {ρ:Ren}(b:RGo P ρ X g g')(hc:g.callers=[trap P])(hm:g.frame.mode≠.run)(hd:g.frame.defers=[])(w:Wj):
  (∃o u es,stepG P true g w=.ended o u es)\/∃f1 u es,stepG P true g w=.go {frame:=f1,callers:=[],status:=.running,dying:=none} u es/\(f1=trap P\/∃c,f1=(trap P).raise c):=by
 obtain ⟨fr,cs,st,dy,of⟩:=g;obtain ⟨hf,-,-,-,⟨a,-⟩,-⟩:=b;simp only at hf a hc hm hd;subst hc;subst a;have e:stepG P true ⟨fr,[trap P],st,none,of⟩ w=unwind P true fr [trap P] none w:=by
  cases hx:fr.mode with
  |run=>exact absurd hx hm
  |returning=>simp only [stepG,hx]
  |panicking c=>simp only [stepG,hx]
 rw [e];unfold unwind;simp only [hd];cases hx:fr.mode with
 |run=>exact absurd hx hm
 |panicking c=>
  simp only [(eN hf P).1,Bool.false_eq_true,if_false];exact .inr ⟨_,_,_,rfl,.inr ⟨c,rfl⟩⟩
 |returning=>
  simp only;cases hfn:P.funcs[fr.fn]? with
  |none=>
   obtain ⟨f1,e1,h1⟩:=i8 (P:=P) fr hf.early.1 (fr.tmps.getD 0 Wo) w;exact .inr ⟨f1,_,_,e1,h1⟩
  |some fn=>
   simp only;cases hr:(results fn fr.tmps).runT P w #[] with
   |mk r es=>
    cases r with
    |ok v u=>
     obtain ⟨f1,e1,h1⟩:=i8 (P:=P) fr hf.early.1 v u;simp only [e1];exact .inr ⟨f1,_,_,rfl,h1⟩
    |halt x u=>cases x<;>exact .inl ⟨_,_,_,rfl⟩
theorem nk (B:bM P)(r:bV P){T:Wk->Wj->Prop}(t:∀g w,T g w->g.callers≠[]/\g.dying=none/\g.status=.running):
  ∀ (n:Nat) (g:Wk) (w:Wj) (g':Wk) (w':Wj),Self P ([trap P],[]) A G g w->runN P n (solo g w)=.next (solo g' w')->T g' w'->Pth P (jC P ([trap P],[]) A G) T g w:=by
 intro n;induction n with
 |zero=>
  intro g w g' w' _ h j;simp only [runN,Stepped.next.injEq] at h;have e1:#[g]=#[g']:=congrArg Machine.gs h;have e2:w=w':=congrArg Machine.world h;simp at e1;subst e1;subst e2;exact .stop j
 |succ n ih=>
  intro g w g' w' hS h j;by_cases l:T g w
  .exact .stop l
  have hr:=hS.1;simp only [runN] at h;by_cases hb:NB [trap P] g
  .have hS0:=hS;obtain ⟨-,ρ,k,u,p,S,C,D,-,-,-,-,hmk⟩:=hS;have hin:Base ([trap P],[]) g.frame k.callers:=fun e=>hb (p.callers.tail e)
   have sf:=iK B D r C true p hin (S.onR w.tape w.drawn) (fun i=>rfl);rcases sf.rel with ⟨h1,-⟩|⟨-,h2⟩|⟨f,_,_,_,_,_,_,_,_,_,_,_,A⟩
   rotate_left 2
   .exact absurd A.mark (hmk f)
   .-- it ends,or it dies
    cases hx:stepG P true g w with
    |ended o v es=>rw [eO hr hx] at h;simp at h
    |go a v es=>
     have h1:Lost (stepG P true g w):=h1;rw [hx] at h1;rw [ku hr hx] at h;obtain ⟨d,f,e,-⟩:=xq n a g' v w' h1.1 (.inl h1.2) h;rw [(t _ _ j).2.1] at e;cases e
    |_=>have h1:Lost (stepG P true g w):=h1;rw [hx] at h1;exact h1.elim
   .generalize hx:stepG P true g w=x at h2;generalize stepG P true k (u.on w.tape w.drawn)=y at h2;cases h2 with
    | @go a a' v v' es es' ρ' R hg he=>
     rw [ku hr hx] at h;have hl:LS P g w a v:=.go hx hg.status.1 hg.dying.1;exact .step ⟨hS0,hb⟩ l hl (ih a v g' w' (hS0.step B r hb hl) h j)
    | @comm a a' c c' _ s hs hrun v v' es es' ρ' R hg hcc he _=>
     rw [rh hr hx] at h;cases hy:(communicate P {timers:=#[],alone:=none,slice:=none} #[away] 0 a #[c] true s v).1 with
     |ended o q=>rw [hy] at h;simp at h
     |next m=>
      rw [hy] at h;rcases ri hrun.1 hy with ⟨b,q,hc,rfl⟩|rfl
      .have hl:LS P g w b q:=.comm hx hc;exact .step ⟨hS0,hb⟩ l hl (ih b q g' w' (hS0.step B r hb hl) h j)
      .cases n with
       |zero=>
        simp only [runN,Stepped.next.injEq] at h;have e1:#[({a with status:=.blocked,offers:=some (#[c],s)}:Wk)]=#[g']:=congrArg Machine.gs h;simp at e1;have:=(t _ _ j).2.2;rw [<-e1] at this;cases this
       |succ n=>
        obtain ⟨o,z,e⟩:=g8 (P:=P) (w:=v) (g:={a with status:=.blocked,offers:=some (#[c],s)}) rfl;simp only [runN,e] at h;simp at h
    | @spawn _ a a' b b' v v' es es' ρ' R hg hk he=>
     obtain ⟨m,e,hm⟩:=xo hr hx;rw [e] at h;have:=zC n m _ h;rw [hm] at this;simp [solo] at this
  .-- it is left:into the trap
   have hc:g.callers=[trap P]:=Classical.byContradiction fun k=>hb (fun e=>absurd e k)
   have hm:g.frame.mode≠.run:=fun k=>hb (fun _=>.inl k)
   have hd:g.frame.defers=[]:=Classical.byContradiction fun k=>hb (fun _=>.inr k)
   obtain ⟨-,ρ,k,u,p,-⟩:=hS;rcases zE p hc hm hd w with ⟨o,v,es,e⟩|⟨f1,v,es,e,hf⟩
   .rw [eO hr e] at h;simp at h
   .rw [ku hr e] at h;cases n with
    |zero=>
     simp only [runN,Stepped.next.injEq] at h;have e1:#[({frame:=f1,callers:=[],status:=.running,dying:=none}:Wk)]=#[g']:=congrArg Machine.gs h;simp at e1;have:=(t _ _ j).1;rw [<-e1] at this;exact (this rfl).elim
    |succ n=>
     obtain ⟨o,z,es2,e2⟩:=rj (P:=P) hf v;simp only [runN,eO (g:={frame:=f1,callers:=[],status:=.running,dying:=none}) rfl e2] at h;simp at h
def Ends (P:Wv)(f:FuncId)(R:(Nat->Question->Nat)->Nat->Ending->Wj->Prop)(g:Wk)(w:Wj):Prop:=
 ∃τ d τ' d' e fr,R τ d e (w.on τ' d')/\g={frame:=fr,callers:=[trap P],status:=.running,dying:=none}/\fr.fn=f/\fr.leaving P (w.on τ' d') e/\e≠.outgrown
omit [Two P] in
theorem Ends.on {f:FuncId}{R:(Nat->Question->Nat)->Nat->Ending->Wj->Prop}(τ:Nat->Question->Nat)(d:Nat):Ends P f R g (w.on τ d)↔Ends P f R g w:=Iff.rfl
theorem rl (m:bM P)(j:bV P){f:FuncId}{args:Array Wx}{R:(Nat->Question->Nat)->Nat->Ending->Wj->Prop}(o:∀τ d,Calls P f args (w.on τ d) (R τ d))(hout:∀τ d u,¬R τ d .outgrown u)
  (hS:Self P ([trap P],[]) A G {frame:=Frame.enter P f args .normal,callers:=[trap P],status:=.running,dying:=none} w):
  Dem P (jC P ([trap P],[]) A G) (Ends P f R) {frame:=Frame.enter P f args .normal,callers:=[trap P],status:=.running,dying:=none} w:=by
 refine Way.dem (N:=jC P ([trap P],[]) A G) ⟨fun g w h=>h.mir m j,fun g w τ d h=>⟨h.1.on τ d,h.2⟩,fun g w τ d=>Ends.on τ d⟩ (fun τ d=>?_);obtain ⟨e,w',fr,l,a,i,b⟩:=o τ d [trap P];have hne:e≠.outgrown:=fun k=>by subst k;exact hout τ d w' l
 have hst:Steps P (lone (Frame.enter P f args .normal) [trap P] (w.on τ d)) (lone fr [trap P] w'):=by
  cases e with
  |returned v=>exact a
  |panicked c=>exact a
  |outgrown=>exact absurd rfl hne
 obtain ⟨n,hn⟩:=hst;refine nk m j (T:=Ends P f R) ?_ n _ _ _ w' (hS.on τ d) hn ⟨τ,d,w'.tape,w'.drawn,e,fr,l,rfl,i,b,hne⟩;rintro g w ⟨_,_,_,_,_,fr,_,rfl,_⟩;exact ⟨by simp,rfl,rfl⟩
end
