/- Part of a proof. -/
import Derived.Test.YtnapepbdohidgaaGreatDoorQM04
import Derived.Laws.Sem
set_option maxHeartbeats 4000000
set_option maxRecDepth 100000
namespace Go.Proofs.YtnapepbdohidgaaGreatDoorQ
section
open Go
section
variable {P:Program} [Two P]
theorem lW:∀ (d:Nat)(t:TypeId),P.alt.eqGuardType d t=P.eqGuardType d t:=by
 intro d;induction d with
 |zero=>intro t;rfl
 |succ d ih=>
  intro t;unfold Program.eqGuardType;simp only [ih,bY]
theorem ng:∀ (d:Nat)(t:TypeId)(o:Nat),cellOfByte P.alt d t o=cellOfByte P d t o:=by
 intro d;induction d with
 |zero=>intro t o;rfl
 |succ d ih=>
  intro t o;unfold cellOfByte;simp only [ih,bY,dm,fM];rfl
theorem lX (d:Nat)(e:TypeId)(c o:Nat)(b:Int):cellAtBytes P.alt d e c o b=cellAtBytes P d e c o b:=by
 unfold cellAtBytes;simp only [ng,iu,dm,fM];rfl
theorem ke (d:Nat):∀ {ρ:Ren}(t:TypeId){x x' y y':Value},RV ρ x x'->RV ρ y y'->RS P QE ρ (Op.eqGuardIn d t x y) (Op.eqGuardIn d t x' y'):=by
 induction d with
 |zero=>intro ρ t x x' y y' _ _;exact ah _
 |succ d ih=>
  intro ρ t x x' y y' hx hy;unfold Op.eqGuardIn;refine ae (ao t) (fun ρ1 l1 ty=>?_);have hx1:=hx.mono l1;have hy1:=hy.mono l1;clear hx hy l1;cases ty with
  |interface ms=>
   cases hx1 with
   |nilIface=>
    cases hy1 with
    |dead _ h=>cases y'<;>first|exact aa rfl|simp [gv] at h
    |_=>exact aa rfl
   |dead _ h=>cases x'<;>first|exact aa rfl|simp [gv] at h
   |_=>exact aa rfl
  |struct fs=>
   cases hx1 with
   |agg hc hR=>
    cases hy1 with
    |agg kc kR=>
     have hxs:RVs ρ1 _ _:=⟨hc,hR⟩;have hys:RVs ρ1 _ _:=⟨kc,kR⟩;dsimp only;simp only [<-Array.forIn_toList];refine ae (j9 fs.toList _ _ _ (fun ρ' l f s=>?_)) (fun ρ2 l2 s=>?_)
     ·refine av (fun _=>?_) (fun _=>aa rfl);refine ag (gB f.type (hxs.mono l) _) (fun ρ3 l3 u u' hu=>?_);refine ag (gB f.type ((hys.mono l).mono l3) _) (fun ρ4 l4 w w' hw=>?_);refine ae (ih f.type (hu.mono l4) hw) (fun ρ5 l5 b=>?_);exact av (fun _=>aa rfl) (fun _=>aa rfl)
     ·obtain ⟨s,-⟩:=s;cases s<;>exact aa rfl
    |dead _ h=>cases y'<;>first|exact aa rfl|simp [gv] at h
    |_=>exact aa rfl
   |dead _ h=>cases x'<;>first|exact aa rfl|simp [gv] at h
   |_=>exact aa rfl
  |array n e=>
   cases hx1 with
   |agg hc hR=>
    cases hy1 with
    |agg kc kR=>
     have hxs:RVs ρ1 _ _:=⟨hc,hR⟩;have hys:RVs ρ1 _ _:=⟨kc,kR⟩;refine ae (bf e) (fun ρ0 l0 z=>?_);dsimp only;simp only [Std.Legacy.Range.forIn_eq_forIn_range'];refine ae (j9 _ _ _ _ (fun ρ' l i s=>?_)) (fun ρ2 l2 s=>?_)
     ·refine ag (gB e ((hxs.mono l0).mono l) _) (fun ρ3 l3 u u' hu=>?_);refine ag (gB e (((hys.mono l0).mono l).mono l3) _) (fun ρ4 l4 w w' hw=>?_);refine ae (ih e (hu.mono l4) hw) (fun ρ5 l5 b=>?_);exact av (fun _=>aa rfl) (fun _=>aa rfl)
     ·obtain ⟨s,-⟩:=s;cases s<;>exact aa rfl
    |dead _ h=>cases y'<;>first|exact aa rfl|simp [gv] at h
    |_=>exact aa rfl
   |dead _ h=>cases x'<;>first|exact aa rfl|simp [gv] at h
   |_=>exact aa rfl
  |_=>exact aa rfl
variable {ρ:Ren}
theorem uW (op:BinOp)(t:TypeId)(x y:Operand){a a' b b':Value}(ha:RV ρ a a')(hb:RV ρ b b'):RS P QU ρ (eqGuard op t x y a b) (eqGuard op t x y a' b'):=by
 unfold eqGuard;refine av (fun _=>aa trivial) (fun _=>?_);cases ha with
 |nilIface=>
  cases hb with
  |nilIface=>
   refine av (fun _=>aa trivial) (fun _=>?_);exact ae (ke _ t .nilIface .nilIface) (fun ρ1 l1 g=>av (fun _=>ah _) (fun _=>aa trivial))
  |dead _ h=>cases b'<;>first|exact aa trivial|simp [gv] at h
  |_=>exact aa trivial
 |agg hc hR=>
  cases hb with
  |agg kc kR=>
   refine aY (aY ?_) (by simp only [lW]);refine av (fun _=>aa trivial) (fun _=>?_);exact ae (ke _ t (.agg hc hR) (.agg kc kR)) (fun ρ1 l1 g=>av (fun _=>ah _) (fun _=>aa trivial))
  |dead _ h=>cases b'<;>first|exact aa trivial|simp [gv] at h
  |_=>exact aa trivial
 |dead _ h=>cases a'<;>first|exact aa trivial|simp [gv] at h
 |_=>exact aa trivial
theorem kg (hI:GId P ρ){a a' b b':Addr}(h:RA ρ a a')(k:RA ρ b b'):RS P QE ρ (Op.twoPlaces a b) (Op.twoPlaces a' b'):=by
 unfold Op.twoPlaces;have e1:(a.block != b.block)=(a'.block != b'.block):=congrArg (! ·) (fw h.1 k.1);have e2:decide (a.block ≥ P.globals.size)=decide (a'.block ≥ P.globals.size):=decide_eq_decide.2 (by have:=hI.lt h.1;omega);refine aY ?_;rw [e1,e2];refine av (fun _=>aS (ah _)) (fun _=>?_);refine ae (eC h) (fun ρ1 l1 x=>?_);exact ae (eC (k.mono l1)) (fun ρ2 l2 y=>aa rfl)
theorem uX (hI:GId P ρ)(kk:IntKind){a a' b b':Addr}(h:RA ρ a a')(k:RA ρ b b'):RS P QV ρ (Op.addrSub kk a b) (Op.addrSub kk a' b'):=by
 unfold Op.addrSub;exact ae (kg hI h k) (fun ρ1 l1 x=>aa (.int _ _))
theorem uY (hI:GId P ρ)(op:BinOp){a a' b b':Addr}(h:RA ρ a a')(k:RA ρ b b'):RS P QV ρ (Op.addrCmp op a b) (Op.addrCmp op a' b'):=by
 unfold Op.addrCmp;exact ae (kg hI h k) (fun ρ1 l1 x=>by cases op<;>first|exact ah _|exact aa (.bool _))
theorem jz (kk:IntKind){a a':Addr}(h:RA ρ a a')(n:Int):RS P QV ρ (Op.addrMod kk a n) (Op.addrMod kk a' n):=by
 unfold Op.addrMod;refine ae (eb h.1) (fun ρ1 l1 s=>?_);rcases s with - |⟨e,z⟩
 ·exact ah _
 refine ag (aC e) (fun ρ2 l2 i i' hi=>?_);obtain ⟨rfl,-⟩:=hi;refine av (fun _=>aS (ah _)) (fun _=>?_);exact ae (eC ((h.mono l1).mono l2)) (fun ρ3 l3 x=>aa (.int _ _))
def QP:Ren->Value->Value->Prop:=fun ρ v v'=>∃a a',v=.pointer a/\v'=.pointer a'/\RAo ρ a a'
theorem QP.val {ρ:Ren}{v v':Value}(h:QP ρ v v'):RV ρ v v':=by
 obtain ⟨a,a',rfl,rfl,h⟩:=h;exact .pointer h
theorem eR (at_:Array TypeId)(t:TypeId){b b':Option Addr}(h0:RAo ρ b b'){y y':Value}(hy:RV ρ y y'):RS P QP ρ (Builtin.unsafeAdd_ at_ t #[.pointer b,y]) (Builtin.unsafeAdd_ at_ t #[.pointer b',y']):=by
 unfold Builtin.unsafeAdd_;refine ae (eP hy) (fun ρ1 l1 n=>?_);have h1:=h0.mono l1;refine av (fun _=>?_) (fun _=>?_)
 ·cases h1 with
  |none=>exact ah _
  |some h=>
   refine ag (pR h.1) (fun ρ2 l2 x y e=>?_);obtain ⟨rfl,rfl⟩:=e;exact aa ⟨_,_,rfl,rfl,.some (h.mono l2)⟩
 ·refine av (fun _=>aS (ah _)) (fun _=>?_);cases h1 with
  |none=>exact ah _
  |some h=>
   refine ae (eb h.1) (fun ρ2 l2 s=>?_);rcases s with - |⟨e,z⟩
   ·exact ah _
   refine aY ?_ ?_
   rotate_left
   ·simp only [lX,dm,gE]
   rw [<-h.2.1];split
   ·exact aa ⟨_,_,rfl,rfl,.some ⟨l2 _ _ h.1,rfl,h.2.2⟩⟩
   ·exact ah _
theorem fg (t:TypeId){x x' y y':Value}(hx:RV ρ x x')(hy:RV ρ y y')(hp:∃a,x=.pointer a):RS P QV ρ (movedNumber t x y) (movedNumber t x' y'):=by
 obtain ⟨a,rfl⟩:=hp;unfold movedNumber;refine ae (ao t) (fun ρ1 l1 d=>av (fun _=>aS (ah _)) (fun _=>?_));cases hx with
 |pointer h=>
  cases h with
  |none=>exact (eR #[] t .none (hy.mono l1)).imp (fun _ _ _ h=>h.val)
  |some h=>
   refine ag (aU (h.mono l1)) (fun ρ2 l2 a a' ha=>?_);obtain ⟨a,lost⟩:=a;obtain ⟨a',lost'⟩:=a';obtain ⟨ha,hl⟩:=ha;simp only at ha hl;subst hl;refine ag (eR #[] t (.some ha) ((hy.mono l1).mono l2)) (fun ρ3 l3 v v' hv=>?_);obtain ⟨b,b',rfl,rfl,k⟩:=hv;cases k with
   |none=>exact aa (.pointer .none)
   |some k=>
    unfold asNumber;exact ag (Q:=fun ρ r r'=>ρ r r') (.new (.number lost k) (fun r r' _ _ _=>.pure (.inr ⟨rfl,rfl⟩))) (fun ρ4 l4 r r' hr=>aa (.pointer (.some ⟨hr,rfl,rfl⟩)))
theorem lY (t:TypeId){x x' y y':Value}(hx:RV ρ x x')(hy:RV ρ y y')(hp:∃a,x=.pointer a):RS P QV ρ (movedPointer t x y) (movedPointer t x' y'):=by
 obtain ⟨a,rfl⟩:=hp;unfold movedPointer;cases hx with
 |pointer h=>
  cases h with
  |none=>exact (eR #[] t .none hy).imp (fun _ _ _ h=>h.val)
  |some h=>
   refine ag (lS h.1) (fun ρ1 l1 u u' hu=>?_);cases hu with
   |none=>exact (eR #[] t (.some (h.mono l1)) (hy.mono l1)).imp (fun _ _ _ h=>h.val)
   |some b k=>exact aS (ah _)
theorem rT (d:Nat)(t:TypeId)(y:Value):cH P (Op.equalIn d t (.tuple #[]) y):=by
 cases d with
 |zero=>exact .halt rfl
 |succ d=>
  unfold Op.equalIn;refine .program (fun p _=>?_)
  show cH P (Sem.bind (match p.underlying t with | some i => Pure.pure i | none => stuck "no such type") _)
  cases p.underlying t with
  |none=>exact .halt rfl
  |some ty=>cases ty<;>cases y<;>exact .halt rfl
theorem lZ (d:Nat)(t:TypeId)(x:Value):cH P (Op.equalIn d t x (.tuple #[])):=by
 cases d with
 |zero=>exact .halt rfl
 |succ d=>
  unfold Op.equalIn;refine .program (fun p _=>?_)
  show cH P (Sem.bind (match p.underlying t with | some i => Pure.pure i | none => stuck "no such type") _)
  cases p.underlying t with
  |none=>exact .halt rfl
  |some ty=>
   cases x with
   |pointer a=>cases ty<;>cases a<;>exact .halt rfl
   |slice a n c=>cases ty<;>cases a<;>exact .halt rfl
   |map a=>cases ty<;>cases a<;>exact .halt rfl
   |int k n=>cases ty<;>rcases n with (_|m)|m<;>exact .halt rfl
   |_=>cases ty<;>exact .halt rfl
theorem rU (op:BinOp)(t:TypeId)(y:Value):cH P (binOp op t (.tuple #[]) y):=by
 unfold binOp;cases op<;>first
  |exact (rT _ t y).bind _
  |(cases y<;>exact .halt rfl)
theorem fN (op:BinOp)(t:TypeId)(x:Value):cH P (binOp op t x (.tuple #[])):=by
 unfold binOp;cases x with
 |pointer a=>cases a<;>cases op<;>first|exact (lZ _ t _).bind _|exact .halt rfl
 |_=>cases op<;>first|exact (lZ _ t _).bind _|exact .halt rfl
theorem zY (hI:GId P ρ)(op:BinOp)(t:TypeId){x x' y y':Value}(hx:RV ρ x x')(hy:RV ρ y y')(hn:(op=.eql\/op=.neq)->RS P QE ρ (Op.equal t x y) (Op.equal t x' y')):RS P QV ρ (binOp op t x y) (binOp op t x' y'):=by
 have eqq:RS P QE ρ (Op.equal t x y) (Op.equal t x' y')->∀b:Bool,RS P QV ρ (do let e <-Op.equal t x y;pure (Value.bool (if b then !e else e))) (do let e <-Op.equal t x' y';pure (Value.bool (if b then !e else e))):=fun h b=>ae h (fun ρ1 l1 e=>aa (.bool _))
 have hx0:=hx;have hy0:=hy;unfold binOp;cases hx with
 |dead _ _=>exact .lost (rU op t y) _
 |pointer h=>
  cases hy with
  |dead _ _=>exact .lost (fN op t _) _
  |pointer k=>
   cases h with
   |none=>cases k<;>cases op<;>first|exact ac _|exact ah _|exact eqq (hn (.inl rfl)) false|exact eqq (hn (.inr rfl)) true
   |some h=>
    cases k with
    |none=>cases op<;>first|exact ac _|exact ah _|exact eqq (hn (.inl rfl)) false|exact eqq (hn (.inr rfl)) true
    |some k=>
     cases op<;>first
      |exact ah _
      |exact eqq (hn (.inl rfl)) false
      |exact eqq (hn (.inr rfl)) true
      |exact ag (aU h) (fun ρ1 l1 a a' ha=>ag (aU (k.mono l1)) (fun ρ2 l2 b b' hb=>uX ((hI.mono l1).mono l2) _ (ha.1.mono l2) hb.1))
      |exact ag (aU h) (fun ρ1 l1 a a' ha=>ag (aU (k.mono l1)) (fun ρ2 l2 b b' hb=>uY ((hI.mono l1).mono l2) _ (ha.1.mono l2) hb.1))
  |int k n=>
   cases op with
   |add=>exact ae (ao t) (fun ρ1 l1 d=>av (fun _=>lY t (hx0.mono l1) (hy0.mono l1) ⟨_,rfl⟩) (fun _=>fg t (hx0.mono l1) (hy0.mono l1) ⟨_,rfl⟩))
   |sub=>exact fg t hx0 (.int _ _) ⟨_,rfl⟩
   |rem=>
    cases h with
    |none=>exact ah _
    |some h=>exact ag (aU h) (fun ρ1 l1 a a' ha=>jz _ ha.1 _)
   |and=>
    cases h with
    |none=>exact ah _
    |some h=>exact ag (aU h) (fun ρ1 l1 a a' ha=>jz _ ha.1 _)
   |_=>cases h<;>first|exact ah _|exact eqq (hn (.inl rfl)) false|exact eqq (hn (.inr rfl)) true
  |_=>cases h<;>cases op<;>first|exact ah _|exact eqq (hn (.inl rfl)) false|exact eqq (hn (.inr rfl)) true
 |int k n=>
  cases hy with
  |dead _ _=>exact .lost (fN op t _) _
  |pointer h=>
   cases op with
   |add=>exact fg t hy0 hx0 ⟨_,rfl⟩
   |and=>
    cases h with
    |none=>exact ah _
    |some h=>exact ag (aU h) (fun ρ1 l1 a a' ha=>jz _ ha.1 _)
   |_=>cases h<;>first|exact ah _|exact eqq (hn (.inl rfl)) false|exact eqq (hn (.inr rfl)) true
  |int k' n'=>
   cases op<;>first
    |exact zU _ _ _ _ _
    |exact av (fun _=>ac _) (fun _=>lO _ _ _ _)
    |exact av (fun _=>ac _) (fun _=>xe _ _ _ _)
    |exact av (fun _=>ac _) (fun _=>nw _ _ _ _)
    |exact av (fun _=>ac _) (fun _=>xh _ _ _)
  |_=>cases op<;>first|exact ac _|exact eqq (hn (.inl rfl)) false|exact eqq (hn (.inr rfl)) true
 |string s=>
  cases hy with
  |dead _ _=>exact .lost (fN op t _) _
  |pointer h=>cases op<;>first|exact ah _|exact eqq (hn (.inl rfl)) false|exact eqq (hn (.inr rfl)) true
  |string s'=>cases op<;>exact lQ _ _ _
  |_=>cases op<;>first|exact ac _|exact eqq (hn (.inl rfl)) false|exact eqq (hn (.inr rfl)) true
 |_=>
  cases hy with
  |dead _ _=>exact .lost (fN op t _) _
  |pointer h=>cases op<;>first|exact ah _|exact eqq (hn (.inl rfl)) false|exact eqq (hn (.inr rfl)) true
  |_=>cases op<;>first|exact ac _|exact eqq (hn (.inl rfl)) false|exact eqq (hn (.inr rfl)) true
end
section
variable {P:Program} [Two P] {ρ:Ren}
theorem B7 {α β:Type}:∀ (l:List α){ρ:Ren}(f:α->Sem β),(∀ρ',ρ.le ρ'->∀a,RS P QE ρ' (f a) (f a))->RS P QE ρ (l.mapM f) (l.mapM f):=by
 intro l;induction l with
 |nil=>intro ρ f _;simp only [List.mapM_nil];exact aa rfl
 |cons x l ih=>
  intro ρ f hf;simp only [List.mapM_cons];refine ae (hf ρ (Ren.le_refl _) x) (fun ρ1 l1 b=>?_);exact ae (ih f (fun ρ' l'=>hf ρ' (Ren.le_trans l1 l'))) (fun ρ2 l2 bs=>aa rfl)
theorem zZ (hZ:bB P)(t:TypeId){a a':Array (Nat×Value)}(h:RPs ρ a.toList a'.toList):RS P QV ρ (Instr.build t a) (Instr.build t a'):=by
 unfold Instr.build;refine ag (bl hZ t) (fun ρ1 l1 z z' hz=>?_);refine ae (ao t) (fun ρ2 l2 d=>?_);have hc:=RV.cellsRel (hz.mono l2);have h2:=(h.mono l1).mono l2;cases d with
 |struct fields=>
  dsimp only;rw [Array.mapM_eq_mapM_toList];refine ae (ae (B7 _ _ (fun ρ' l f=>ae (bf f.type) (fun ρ3 l3 n=>aa rfl))) (fun ρ' l x=>aa rfl)) (fun ρ3 l3 places=>?_);rcases ov (fun i=>places[i]?) (h2.mono l3) (hc.mono l3) with ⟨h1,h2⟩|⟨c,c',h1,h2,hc⟩
  ·rw [h1,h2];exact ac _
  ·rw [h1,h2];exact aa (.agg hc.size hc.at_)
 |array n elem=>
  refine ae (bf elem) (fun ρ3 l3 size=>?_);rcases ov (fun i=>some (i * size,size)) (h2.mono l3) (hc.mono l3) with ⟨h1,h2⟩|⟨c,c',h1,h2,hc⟩
  ·rw [h1,h2];exact ac _
  ·rw [h1,h2];exact aa (.agg hc.size hc.at_)
 |_=>exact ac _
theorem jA {α β:Type}{Q:Ren->α->β->Prop}{v v':Value}(h:RV ρ v v'):RS P Q ρ (goPanic v) (goPanic v'):=.halt (.panic h)
theorem ny {f f':Value}(hf:RV ρ f f'){a a':Array Value}(ha:RVs ρ a a'):RS P (fun ρ d d'=>RD ρ d d') ρ (Deferred.ofValue f a) (Deferred.ofValue f' a'):=by
 unfold Deferred.ofValue;cases hf with
 |func hf h1 h2 k1 k2=>exact aa (.mk (.fn hf ⟨h2,k2⟩) (RVs.append ⟨h1,k1⟩ ha))
 |nilFunc=>exact aa (.mk .nil ha)
 |odd n s b c hn=>exact aa (.odd n _ a s c _ hn)
 |_=>exact ac _
def QL (l:Nat):Ren->Loop->Loop->Prop:=fun ρ r r'=>RL ρ r r'/\¬ρ.old l/\¬ρ.ch l
theorem ep {l l':Nat}(h:ρ l l'):RS P (QL l) ρ (Instr.getLoop l) (Instr.getLoop l'):=by
 unfold Instr.getLoop;refine ag (de h) (fun ρ1 l1 o o' ho=>?_);obtain ⟨ho,h1,h2⟩:=ho;cases ho with
 |loop hl=>exact aa ⟨hl,(fun k=>by cases h1 k),(fun k=>by have:=h2 k;simp [Obj.isChan] at this)⟩
 |_=>exact ac _
theorem gF {r r':Nat}(h:ρ r r'){o o':Obj}(ho:RO ρ o o')(hn:¬ρ.old r)(hc:¬ρ.ch r)(hs:o.isChan=false:=by rfl):RS P QU ρ (setObj r o) (setObj r' o'):=.setObj h ho hn (fun e=>absurd e hc) (.pure trivial) (fun e=>by rw [hs] at e;cases e)
theorem oz {l l':Nat}(h:ρ l l'):RS P QU ρ (Instr.beginRound l) (Instr.beginRound l'):=by
 unfold Instr.beginRound;refine ag (ep h) (fun ρ1 l1 r r' hr=>?_);obtain ⟨hr,h1,h2⟩:=hr;refine ag (gF (l1 _ _ h) (.loop ⟨rfl,hr.pending,hr.fn,hr.tmps,hr.params,hr.assign,hr.body,hr.defers,hr.okA,hr.okBo,hr.okP⟩) h1 h2) (fun ρ2 l2 _ _ _=>?_);rw [hr.state];cases r'.state<;>first|exact aa trivial|exact bj _
theorem rV {l l':Nat}(h:ρ l l')(j:Option Code)(hj:∀c,j=some c->aA ρ.prog ρ.F c=true):RS P QV ρ (Instr.endRound l j) (Instr.endRound l' j):=by
 unfold Instr.endRound;refine ag (ep h) (fun ρ1 l1 r r' hr=>?_);obtain ⟨hr,h1,h2⟩:=hr;exact ag (gF (l1 _ _ h) (.loop ⟨rfl,rfl,hr.fn,hr.tmps,hr.params,hr.assign,hr.body,hr.defers,hr.okA,hr.okBo,by rw [l1.prog,l1.F];exact hj⟩) h1 h2) (fun ρ2 l2 _ _ _=>aa (.bool _))
theorem uZ {l l':Nat}(h:ρ l l'):RS P (fun ρ a b=>a=b/\∀c,a=some c->aA ρ.prog ρ.F c=true) ρ (Instr.endLoop l) (Instr.endLoop l'):=by
 unfold Instr.endLoop;refine ag (ep h) (fun ρ1 l1 r r' hr=>?_);obtain ⟨hr,h1,h2⟩:=hr;rw [hr.state,<-hr.pending];refine av (fun _=>aS (bj _)) (fun _=>?_);exact ag (gF (l1 _ _ h) (.loop ⟨rfl,by simp only [hr.pending],hr.fn,hr.tmps,hr.params,hr.assign,hr.body,hr.defers,hr.okA,hr.okBo,hr.okP⟩) h1 h2) (fun ρ2 l2 _ _ _=>aa ⟨rfl,by rw [l2.prog,l2.F];exact hr.okP⟩)
def QEn:Ren->Nat×List Deferred->Nat×List Deferred->Prop:=fun ρ x y=>ρ x.1 y.1/\RDs ρ x.2 y.2
theorem pS (fn:FuncId){t t':Array Value}(ht:RVs ρ t t')(ps:Array Tmp)(a b:Code)(ha:aA ρ.prog ρ.F a=true)(hb:aA ρ.prog ρ.F b=true){r r':Option Nat}(hr:RNo ρ r r'):RS P QEn ρ (Instr.enterLoop fn t ps a b r) (Instr.enterLoop fn t' ps a b r'):=by
 unfold Instr.enterLoop;have fin:∀ (ρ1:Ren),ρ.le ρ1->∀ (d d':Nat) (m m':List Deferred),ρ1 d d'->RDs ρ1 m m'->RS P QEn ρ1 (do let l <-newObj (.loop {state:=.ready,pending:=none,fn,tmps:=t,params:=ps,assign:=a,body:=b,defers:=d});pure (l,m)) (do let l <-newObj (.loop {state:=.ready,pending:=none,fn,tmps:=t',params:=ps,assign:=a,body:=b,defers:=d'});pure (l,m')):=fun ρ1 l1 d d' m m' hd hm=>
  .new (.loop ⟨rfl,rfl,rfl,ht.mono l1,rfl,rfl,rfl,hd,by rw [l1.prog,l1.F];exact ha,by rw [l1.prog,l1.F];exact hb,fun c e=>by cases e⟩) (fun x x' h1 h2 _=>.pure ⟨.inr ⟨rfl,rfl⟩,hm.mono (pG _ _ _ h1 h2)⟩)
 cases hr with
 |some h=>
  refine ag (ep h) (fun ρ1 l1 q q' hq=>?_);exact ag (Q:=fun ρ (x y:Nat×List Deferred)=>ρ x.1 y.1/\RDs ρ x.2 y.2) (aa ⟨hq.1.defers,.nil⟩) (fun ρ2 l2 x y h=>by
   obtain ⟨d,m⟩:=x;obtain ⟨d',m'⟩:=y;exact fin ρ2 (Ren.le_trans l1 l2) d d' m m' h.1 h.2)
 |none=>
  refine ag (Q:=fun ρ (x y:Nat)=>ρ x y) (.new (.deferred .nil) (fun x x' h1 h2 _=>.pure (.inr ⟨rfl,rfl⟩))) (fun ρ1 l1 q q' hq=>?_);exact ag (Q:=fun ρ (x y:Nat×List Deferred)=>ρ x.1 y.1/\RDs ρ x.2 y.2) (aa ⟨hq,.cons (.mk (.collected hq) RVs.nil) .nil (.inl ⟨_,rfl⟩)⟩) (fun ρ2 l2 x y h=>by
   obtain ⟨d,m⟩:=x;obtain ⟨d',m'⟩:=y;exact fin ρ2 (Ren.le_trans l1 l2) d d' m m' h.1 h.2)
theorem ma {l l':Nat}(h:ρ l l'){d d':Deferred}(hS:(ρ.F ft||ρ.F j8)=true)(hd:RD ρ d d'):RS P QU ρ (Instr.deferInRound l d) (Instr.deferInRound l' d'):=by
 unfold Instr.deferInRound;refine ag (ep h) (fun ρ1 l1 r r' hr=>?_);refine ag (de hr.1.defers) (fun ρ2 l2 o o' ho=>?_);obtain ⟨ho,h1,h2⟩:=ho;cases ho with
 |deferred hl=>exact gF (l2 _ _ hr.1.defers) (.deferred (.cons ((hd.mono l1).mono l2) hl (.inr (by rw [l2.F,l1.F];exact hS)))) (fun k=>by cases h1 k) (fun k=>by have:=h2 k;simp [Obj.isChan] at this)
 |taken=>exact .lost (.halt rfl) _
 |_=>exact ac _
theorem mc {l l':Nat}(h:ρ l l'):RS P (fun ρ a b=>RDs ρ a b) ρ (Instr.takeDeferred l) (Instr.takeDeferred l'):=by
 unfold Instr.takeDeferred;refine ag (de h) (fun ρ2 l2 o o' ho=>?_);obtain ⟨ho,h1,h2⟩:=ho;cases ho with
 |deferred hl=>exact ag (gF (l2 _ _ h) .taken (fun k=>by cases h1 k) (fun k=>by have:=h2 k;simp [Obj.isChan] at this)) (fun ρ3 l3 _ _ _=>aa (hl.mono l3))
 |_=>exact ac _
theorem RVs.zipSet (ps:List Tmp):∀ (a a':List Value){c c':Array Value},a.length=a'.length->(∀ (j:Nat) v v',a[j]?=some v->a'[j]?=some v'->RV ρ v v')->RVs ρ c c' ->
  RVs ρ ((ps.zip a).foldl (fun tmps (x:Tmp×Value)=>tmps.setIfInBounds x.1 x.2) c) ((ps.zip a').foldl (fun tmps (x:Tmp×Value)=>tmps.setIfInBounds x.1 x.2) c'):=by
 induction ps with
 |nil=>intro a a' c c' _ _ hc;exact hc
 |cons p ps ih=>
  intro a a' c c' hl hv hc;cases a with
  |nil=>cases a' with
   |nil=>exact hc
   |cons _ _=>simp at hl
  |cons x a=>
   cases a' with
   |nil=>simp at hl
   |cons x' a'=>
    simp only [List.zip_cons_cons,List.foldl_cons];exact ih a a' (by simpa using hl) (fun j v v' h1 h2=>hv (j+1) v v' h1 h2) (hc.set _ (hv 0 x x' rfl rfl))
end
section
variable {P:Program} [Two P]
theorem pT {ρ:Ren}(t:TypeId):RS P QE ρ (elemOf t) (elemOf t):=by
 unfold elemOf;refine ae (ao t) (fun ρ1 l1 d=>?_);cases d<;>first|exact aa rfl|exact ac _
variable {ρ:Ren}
structure RC (ρ:Ren)(c c':CommCase):Prop where
 chan:RV ρ c.chan c'.chan
 send:(c.send=none/\c'.send=none)\/∃v v',c.send=some v/\c'.send=some v'/\RV ρ v v'
 zero:RV ρ c.zero c'.zero
def BC:Op->Bool
 | .send _ _| .recv _ _ _=>true
 |_=>false
inductive RX (ρ:Ren):Next->Next->Prop
 |value {v v':Value} (h:RV ρ v v'):RX ρ (.value v) (.value v')
 |skip:RX ρ .skip .skip
 |enter (f:FuncId) (hf:ρ.F f=true) {a a':Array Value} (h:RVs ρ a a'):RX ρ (.enter f a) (.enter f a')
 |round {l l':Nat} (hl:ρ l l') (f:FuncId) {t t':Array Value} (ht:RVs ρ t t') (a b:Code) (ha:aA ρ.prog ρ.F a=true) (hb:aA ρ.prog ρ.F b=true):RX ρ (.round l f t a b) (.round l' f t' a b)
 |defer (hS:(ρ.F ft||ρ.F j8)=true) {d d':Deferred} (h:RD ρ d d'):RX ρ (.defer d) (.defer d')
 |spawn (hC:ρ.F j8=true) {d d':Deferred} (h:RD ρ d d'):RX ρ (.spawn d) (.spawn d')
inductive RX1 (ρ:Ren):Next->Next->Prop
 |of {a b:Next} (h:RX ρ a b):RX1 ρ a b
 |mk (f:FuncId) (hM:Mk ρ.F f=true) {a a':Array Value} (h:RVs ρ a a') (hs:a.size=2):RX1 ρ (.enter f a) (.enter f a')
def fh (P:Program) [Two P](F:FuncId->Bool):Prop:=∀f fn,F f=true->P.funcs[f]?=some fn->fn.body=none->∀ρ a a',ρ.F=F->GId P ρ->RVs ρ a a'->RS P RX ρ (callFunc f a) (callFunc f a')
theorem rW (hE : fh P ρ.F) (hI : GId P ρ) (f : FuncId) (hF : ρ.F f = true) (hn : ∀ fn, P.funcs[f]? = some fn → fn.name ≠ "runtime.NumGoroutine") {a a' : Array Value} (h : RVs ρ a a') : RS P RX ρ (callFunc f a) (callFunc f a') := by
 cases hf:P.funcs[f]? with
 |none=>
  unfold callFunc;refine aY ?_ (by simp only [hI.alt f hF]);rw [hf];exact ac _
 |some fn=>
  cases hb:fn.body with
  |none=>exact hE f fn hF hf hb ρ a a' rfl hI h
  |some b=>
   unfold callFunc;refine aY ?_ (by simp only [hI.alt f hF]);have h1:=hn fn hf;simp only [hf,hb]
   have e : (fn.name == "runtime.NumGoroutine") = false := beq_eq_false_iff_ne.2 h1
   simp only [e];exact aa (.enter f hF h)
theorem xj (hI : GId P ρ) (f : FuncId) (hM : Mk ρ.F f = true) (hn : ∀ fn, P.funcs[f]? = some fn → fn.name ≠ "runtime.NumGoroutine") {a a' : Array Value} (h : RVs ρ a a') (hs : a.size = 2) : RS P RX1 ρ (callFunc f a) (callFunc f a') := by
 obtain ⟨x,y,h1,h2,h3,h4,h5⟩:=hI.apart f hM
 have h6 : (y.name == "runtime.NumGoroutine") = false := beq_eq_false_iff_ne.2 (hn y h2)
 have h7 : (x.name == "runtime.NumGoroutine") = false := by rw [h5]; exact h6
 have h8:x.body.isNone=false:=by cases hx:x.body<;>simp [hx] at h3 ⊢
 have h9:y.body.isNone=false:=by cases hx:y.body<;>simp [hx] at h4 ⊢
 unfold callFunc;refine aY ?_ (by simp only [h1,h2,h6,h7,h8,h9,Bool.false_eq_true,if_false]);simp only [h2,h6,h9];exact aa (.mk f hM h hs)
theorem Aa {l l':Nat}(h:ρ l l'){a a':Array Value}(ha:RVs ρ a a'):RS P RX ρ (Instr.yield l a) (Instr.yield l' a'):=by
 unfold Instr.yield;refine ag (ep h) (fun ρ1 l1 r r' hr=>?_);obtain ⟨hr,-,-⟩:=hr;rw [<-ha.size,<-hr.params,<-hr.fn,<-hr.assign,<-hr.body];refine av (fun _=>aS (ac _)) (fun _=>aa (.round (l1 _ _ h) _ ?_ _ _ hr.okA hr.okBo));have ha1:=ha.mono l1;have:=RVs.zipSet r.params.toList a.toList a'.toList (by simpa using ha1.size) (fun j v v' h1 h2=>ha1.at_ j v v' (by simpa using h1) (by simpa using h2)) hr.tmps;rw [<-Array.toList_zip,<-Array.toList_zip,Array.foldl_toList,Array.foldl_toList] at this;exact this
end
theorem DA {a b:ByteArray}(h:(a==b)=true):a=b:=by
 obtain ⟨x⟩:=a;obtain ⟨y⟩:=b;have h2:(x==y)=true:=h;rw [eq_of_beq h2]
theorem B8 (a:ByteArray):(a==a)=true:=by
 obtain ⟨x⟩:=a;exact (beq_self_eq_true x:(x==x)=true)
theorem tK {P:Program}{t:TypeId}(h:uL P t=true):∃k e,P.underlying t=some (.map k e)/\P.underlying k=some .string:=by
 unfold uL at h;split at h
 ·rename_i k e h1;split at h
  ·rename_i h2;exact ⟨k,e,h1,h2⟩
  ·cases h
 ·cases h
section
variable {P:Program} [Two P]
theorem xl:∀ (n:Nat)(t u:TypeId),P.alt.alikeButTags n t u=P.alikeButTags n t u:=by
 intro n;induction n with
 |zero=>intro t u;rfl
 |succ n ih=>
  intro t u;unfold Program.alikeButTags;simp only [ih];rfl
theorem gp (t:TypeId):P.alt.underlyingId t=P.underlyingId t:=rfl
theorem oA (t:TypeId):P.alt.stoodInAs t=P.stoodInAs t:=by
 unfold Program.stoodInAs;simp only [xl,gE,bY,gp];rfl
theorem eD (t:TypeId):P.alt.stoodInHeld t=P.stoodInHeld t:=by
 unfold Program.stoodInHeld;simp only [oA];rfl
theorem nh:∀ (n:Nat)(t u:TypeId),sameLayout P.alt n t u=sameLayout P n t u:=by
 intro n;induction n with
 |zero=>intro t u;rfl
 |succ n ih=>
  intro t u;unfold sameLayout;simp only [ih,eD,gp,bY]
theorem xm (f:TypeId->Bool):∀ (d:Nat)(e:TypeId)(c o n:Nat),rowAt P.alt f d e c o n=rowAt P f d e c o n:=by
 intro d;induction d with
 |zero=>intro e c o n;rfl
 |succ d ih=>
  intro e c o n;unfold rowAt;simp only [ih,eD,bY,dm];rfl
theorem vd:∀ (d:Nat)(e:TypeId)(c o:Nat)(u:TypeId)(n:Nat),liesAt P.alt d e c o u n=liesAt P d e c o u n:=by
 intro d;induction d with
 |zero=>intro e c o u n;rfl
 |succ d ih=>
  intro e c o u n;unfold liesAt;simp only [ih,xm,nh,gE,bY]
theorem rX {α σ:Type}{ρ:Ren}(l:List α)(s:σ)(f f':α->σ->Sem (ForInStep σ))(hf:∀ρ',ρ.le ρ'->∀a∈l,∀s,RS P QE ρ' (f a s) (f' a s)):RS P QE ρ (forIn l s f) (forIn l s f'):=
 eQ l l s (fun _ a a'=>a=a'/\a∈l) (fun _ _ _ _ _ h=>h) f f' rfl (fun j a a' h1 h2=>by rw [h1] at h2;exact ⟨Option.some.inj h2,List.mem_of_getElem? h1⟩) (fun ρ' l a a' s h=>by obtain ⟨rfl,hm⟩:=h;exact hf ρ' l a hm s)
theorem xn (d:Nat):∀ (n:Nat){ρ:Ren},GId P ρ->∀ (t:TypeId){x x' y y':Value},RV ρ x x'->RV ρ y y'->rM P n t=true->RS P QE ρ (Op.equalIn d t x y) (Op.equalIn d t x' y'):=by
 induction d with
 |zero=>intro n ρ _ t x x' y y' _ _ _;exact ah _
 |succ d ih=>
  intro n ρ hI t x x' y y' hx hy hD;cases n with
  |zero=>simp [rM] at hD
  |succ n=>
   unfold rM at hD;by_cases hp:gm (P.underlying t)=true
   ·exact ii (d+1) hI t hx hy (.inl hp)
   unfold Op.equalIn;refine ag (aP t) (fun ρ1 l1 ty ty' hd=>?_);obtain ⟨rfl,hd⟩:=hd;rw [hd] at hD hp;have hI1:=hI.mono l1;have hx1:=hx.mono l1;have hy1:=hy.mono l1;clear hx hy hI;cases ty with
   |struct fs=>
    simp only at hD;cases hx1 with
    |agg hc hR=>
     cases hy1 with
     |agg kc kR=>
      have hxs:RVs ρ1 _ _:=⟨hc,hR⟩;have hys:RVs ρ1 _ _:=⟨kc,kR⟩;refine aY ?_ (by simp only [eD]);refine av (fun _=>aS (ah _)) (fun _=>?_);dsimp only;simp only [<-Array.forIn_toList];refine ae (rX fs.toList _ _ _ (fun ρ' l f hf s=>?_)) (fun ρ2 l2 s=>?_)
      ·have hDf:rM P n f.type=true:=by
        obtain ⟨i,hi,rfl⟩:=List.mem_iff_getElem.1 hf;have:=Array.all_eq_true.1 hD i (by simpa using hi);simpa using this
       refine av (fun _=>?_) (fun _=>aa rfl);refine ag (gB f.type (hxs.mono l) _) (fun ρ3 l3 u u' hu=>?_);refine ag (gB f.type ((hys.mono l).mono l3) _) (fun ρ4 l4 w w' hw=>?_);refine ae (ih n (((hI1.mono l).mono l3).mono l4) f.type (hu.mono l4) hw hDf) (fun ρ5 l5 b=>?_);exact av (fun _=>aa rfl) (fun _=>aa rfl)
      ·obtain ⟨s,-⟩:=s;cases s<;>exact aa rfl
     |_=>exact ac _
    |_=>exact ac _
   |bool=>simp [gm] at hp
   |string=>simp [gm] at hp
   |int k=>simp [gm] at hp
   |_=>simp at hD
theorem rY (d:Nat){ρ:Ren}(t:TypeId)(ht:P.underlying t=some .string){x x' y y':Value}(hx:RV ρ x x')(hy:RV ρ y y'):RS P (fun _ a b=>a=b/\(a=true->∃s,x=.string s/\y=.string s)) ρ (Op.equalIn d t x y) (Op.equalIn d t x' y'):=by
 cases d with
 |zero=>exact ah _
 |succ d=>
  unfold Op.equalIn;refine ag (aP t) (fun ρ1 l1 ty ty' hd=>?_);obtain ⟨rfl,hd⟩:=hd;rw [ht] at hd;cases hd;cases hx with
  |string s=>
   cases hy with
   |string s'=>exact aa ⟨rfl,fun h=>⟨s,rfl,by rw [DA h]⟩⟩
   |_=>exact ac _
  |_=>exact ac _
def QF (k:Value)(l:List MapEntry)(i0:Nat):Ren->Option (Nat×Value)->Option (Nat×Value)->Prop:=fun ρ a b=>
 (a=none/\b=none)\/∃i v v' s,a=some (i,v)/\b=some (i,v')/\RV ρ v v'/\k=.string s/\i0<=i/\∃e,l[i-i0]?=some e/\e.key=.string s
theorem QF.tail {k:Value}{e:MapEntry}{l:List MapEntry}{i0:Nat}{ρ:Ren}{a b:Option (Nat×Value)}(h:QF k l (i0+1) ρ a b):QF k (e::l) i0 ρ a b:=by
 rcases h with h|⟨i,v,v',s,h1,h2,h3,h4,h5,x,h6,h7⟩
 ·exact .inl h
 ·refine .inr ⟨i,v,v',s,h1,h2,h3,h4,by omega,x,?_,h7⟩;rw [show i-i0=(i-(i0+1))+1 by omega];exact h6
theorem oB (t:TypeId)(ht:P.underlying t=some .string){k k':Value}:∀ {l l':List MapEntry}{ρ:Ren}(i:Nat),RV ρ k k'->RMs ρ l l'->RS P (QF k l i) ρ (Instr.findAsking t k l i) (Instr.findAsking t k' l' i):=by
 intro l;induction l with
 |nil=>intro l' ρ i _ h;cases h;exact aa (.inl ⟨rfl,rfl⟩)
 |cons e l ih=>
  intro l' ρ i hk h;cases h with
  | @cons b q q' v v' _ l' hq hv hl=>
   unfold Instr.findAsking;refine ag (rY _ t ht hk hq) (fun ρ1 l1 a a' ha=>?_);obtain ⟨rfl,ha⟩:=ha;cases a with
   |true=>
    obtain ⟨s,h1,h2⟩:=ha rfl;exact aa (.inr ⟨i,v,v',s,rfl,rfl,hv.mono l1,h1,lR _,⟨q,v,b⟩,by simp,h2⟩)
   |false=>exact (ih (i+1) (hk.mono l1) (hl.mono l1)).imp (fun _ _ _ h=>h.tail)
theorem rZ {ρ:Ren}{k k' q q':Value}(hk:RV ρ k k')(hq:RV ρ q q'):Instr.sameNow .string k q=Instr.sameNow .string k' q':=by
 cases hk with
 |string s=>cases hq with
  |string s'=>rfl
  |dead _ h=>cases q'<;>first|rfl|simp [gv] at h
  |_=>rfl
 |dead _ h=>cases k'<;>first|rfl|simp [gv] at h
 |_=>rfl
theorem r4 {k k':Value}:∀ {l l':List MapEntry}{ρ:Ren}(i:Nat),RV ρ k k'->RMs ρ l l'->(Instr.findNow .string k l i=none/\Instr.findNow .string k' l' i=none)\/∃a b,Instr.findNow .string k l i=some a/\Instr.findNow .string k' l' i=some b/\QF k l i ρ a b:=by
 intro l;induction l with
 |nil=>intro l' ρ i _ h;cases h;exact .inr ⟨none,none,rfl,rfl,.inl ⟨rfl,rfl⟩⟩
 |cons e l ih=>
  intro l' ρ i hk h;cases h with
  | @cons b q q' v v' _ l' hq hv hl=>
   have hs:=rZ hk hq;unfold Instr.findNow;simp only [<-hs];cases hx:Instr.sameNow .string k q with
   |none=>exact .inl ⟨rfl,rfl⟩
   |some c=>
    cases c with
    |true=>
     refine .inr ⟨_,_,rfl,rfl,.inr ?_⟩;have:∃s,k=.string s/\q=.string s:=by
      cases k<;>cases q<;>simp [Instr.sameNow] at hx
      ·exact ⟨_,rfl,by rw [DA hx]⟩
     obtain ⟨s,h1,h2⟩:=this;exact ⟨i,v,v',s,rfl,rfl,hv,h1,lR _,⟨q,v,b⟩,by simp,h2⟩
    |false=>
     rcases ih (i+1) hk hl with h|⟨a,b,h1,h2,h3⟩
     ·exact .inl h
     ·exact .inr ⟨a,b,h1,h2,h3.tail⟩
theorem nz {ρ:Ren}(t:TypeId)(ht:P.underlying t=some .string){k k':Value}(hk:RV ρ k k'){l l':List MapEntry}(h:RMs ρ l l'):RS P (QF k l 0) ρ (Instr.findKey t k l) (Instr.findKey t k' l'):=by
 unfold Instr.findKey;refine ag (aP t) (fun ρ1 l1 ty ty' hd=>?_);obtain ⟨rfl,hd⟩:=hd;rw [ht] at hd;cases hd;rcases r4 0 (hk.mono l1) (h.mono l1) with ⟨h1,h2⟩|⟨a,b,h1,h2,h3⟩
 ·rw [h1,h2];exact oB t ht 0 (hk.mono l1) (h.mono l1)
 ·rw [h1,h2];exact aa h3
theorem me {ρ:Ren}(e e':Bool)(n:Nat)(t:TypeId)(ht:P.underlying t=some .string)(k k':Value):RS P QU ρ (Instr.checkKey e (n+1) t k) (Instr.checkKey e' (n+1) t k'):=by
 unfold Instr.checkKey;refine ag (aP t) (fun ρ1 l1 ty ty' hd=>?_);obtain ⟨rfl,hd⟩:=hd;rw [ht] at hd;cases hd;exact aa trivial
variable {ρ:Ren}
theorem xo (hZ:bB P)(t:TypeId)(ht:uL P t=true){x x' i i':Value}(hx:RV ρ x x')(hi:RV ρ i i')(ok:Bool):RS P QV ρ (Instr.lookup t x i ok) (Instr.lookup t x' i' ok):=by
 obtain ⟨k,e,h1,h2⟩:=tK ht;unfold Instr.lookup;refine ag (aP t) (fun ρ1 l1 ty ty' hd=>?_);obtain ⟨rfl,hd⟩:=hd;rw [h1] at hd;cases hd;have hx1:=hx.mono l1;have hi1:=hi.mono l1;have fin:∀ (ρ2:Ren),ρ1.le ρ2->∀ (es es':Array MapEntry),RMs ρ2 es.toList es'.toList->RS P QV ρ2 (do
   Instr.checkKey es.isEmpty 10000 k i
   let (v,o) <-match <-Instr.findKey k i es.toList with
    |some (_,v)=>pure (v,true)
    |none=>pure (<-zeroValue e,false)
   pure (if ok then .tuple #[v,.bool o] else v)) (do
   Instr.checkKey es'.isEmpty 10000 k i'
   let (v,o) <-match <-Instr.findKey k i' es'.toList with
    |some (_,v)=>pure (v,true)
    |none=>pure (<-zeroValue e,false)
   pure (if ok then .tuple #[v,.bool o] else v)):=by
  intro ρ2 l2 es es' hes;refine ag (me _ _ 9999 k h2 _ _) (fun ρ3 l3 _ _ _=>?_);refine ag (nz k h2 ((hi1.mono l2).mono l3) (hes.mono l3)) (fun ρ4 l4 a b hab=>?_);have last:∀ (ρ5:Ren) (v v':Value) (o:Bool),RV ρ5 v v'->RS P QV ρ5 (pure (if ok then .tuple #[v,.bool o] else v):Sem Value) (pure (if ok then .tuple #[v',.bool o] else v')):=by
   intro ρ5 v v' o hv;cases ok with
   |false=>exact aa hv
   |true=>
    have:=(RVs.nil.push hv).push (.bool o);exact aa (.tuple this.size this.at_)
  rcases hab with ⟨rfl,rfl⟩|⟨j,v,v',s,rfl,rfl,hv,-⟩
  ·refine ag (bl hZ e) (fun ρ6 l6 z z' hz=>?_);refine ag (Q:=fun ρ (x y:Value×Bool)=>RV ρ x.1 y.1/\x.2=y.2) (aa ⟨hz,rfl⟩) (fun ρ5 l5 a b h=>?_);obtain ⟨a1,a2⟩:=a;obtain ⟨b1,b2⟩:=b;obtain ⟨h3,h4⟩:=h;simp only at h3 h4;subst h4;exact last ρ5 a1 b1 a2 h3
  ·refine ag (Q:=fun ρ (x y:Value×Bool)=>RV ρ x.1 y.1/\x.2=y.2) (aa ⟨hv,rfl⟩) (fun ρ5 l5 a b h=>?_);obtain ⟨a1,a2⟩:=a;obtain ⟨b1,b2⟩:=b;obtain ⟨h3,h4⟩:=h;simp only at h3 h4;subst h4;exact last ρ5 a1 b1 a2 h3
 cases hx1 with
 |map hr=>
  cases hr with
  |none=>exact ag (Q:=fun ρ (x y:Array MapEntry)=>RMs ρ x.toList y.toList) (aa .nil) (fun ρ2 l2 a b h=>fin ρ2 l2 a b h)
  |some hr=>
   refine ag (de hr) (fun ρ2 l2 o o' ho=>?_);obtain ⟨ho,-,-⟩:=ho;cases ho with
   |map c hm=>exact ag (Q:=fun ρ (x y:Array MapEntry)=>RMs ρ x.toList y.toList) (aa hm) (fun ρ3 l3 a b h=>fin ρ3 (Ren.le_trans l2 l3) a b h)
   |_=>exact .lost (cH.bind (.halt rfl) _) _
 |_=>exact .lost (cH.bind (.halt rfl) _) _
theorem RMs.push {l l':List MapEntry}(h:RMs ρ l l')(b:Nat){k k' v v':Value}(hk:RV ρ k k')(hv:RV ρ v v'):RMs ρ (l++[⟨k,v,b⟩]) (l'++[⟨k',v',b⟩]):=by
 induction h with
 |nil=>exact .cons b hk hv .nil
 |cons c hq h _ ih=>exact .cons c hq h ih
theorem RMs.modify {l l':List MapEntry}(h:RMs ρ l l'){k k' v v':Value}(hk:RV ρ k k')(hv:RV ρ v v'):∀i,RMs ρ (l.modify i (fun e=>{e with key:=k,val:=v})) (l'.modify i (fun e=>{e with key:=k',val:=v'})):=by
 induction h with
 |nil=>intro i;cases i<;>exact .nil
 |cons c hq h hl ih=>
  intro i;cases i with
  |zero=>exact .cons c hk hv hl
  |succ i=>exact .cons c hq h (ih i)
theorem RMs.at_ {l l':List MapEntry}(h:RMs ρ l l'):∀ (i:Nat) e,l[i]?=some e->∃e',l'[i]?=some e'/\RV ρ e.key e'.key:=by
 induction h with
 |nil=>intro i e h;simp at h
 |cons c hq h hl ih=>
  intro i e he;cases i with
  |zero=>simp at he;subst he;exact ⟨_,rfl,hq⟩
  |succ i=>exact ih i e he
theorem pU (t:TypeId)(ht:uL P t=true){m m' k k' v v':Value}(hm:RV ρ m m')(hk:RV ρ k k')(hv:RV ρ v v'):RS P QU ρ (Instr.mapUpdate t m k v) (Instr.mapUpdate t m' k' v'):=by
 obtain ⟨kt,e,h1,h2⟩:=tK ht;unfold Instr.mapUpdate;refine ag (aP t) (fun ρ1 l1 ty ty' hd=>?_);obtain ⟨rfl,hd⟩:=hd;rw [h1] at hd;cases hd;have hm1:=hm.mono l1;cases hm1 with
 |map hr=>
  cases hr with
  |none=>exact lj _
  | @some r r' hr=>
   refine ag (de hr) (fun ρ2 l2 o o' ho=>?_);obtain ⟨ho,k1,k2⟩:=ho;cases ho with
   | @map es es' c hm=>
    have n1:¬ρ2.old r:=fun k=>by cases k1 k
    have n2:ρ2.ch r->False:=fun k=>by have:=k2 k;simp [Obj.isChan] at this
    refine ag (me _ _ 9999 kt h2 _ _) (fun ρ3 l3 _ _ _=>?_);have hk3:=((hk.mono l1).mono l2).mono l3;refine ag (nz kt h2 hk3 (hm.mono l3)) (fun ρ4 l4 a b hab=>?_);have hk4:=hk3.mono l4;have hv4:=(((hv.mono l1).mono l2).mono l3).mono l4;have hm4:=(hm.mono l3).mono l4;have hr4:ρ4 r r':=l4 _ _ (l3 _ _ (l2 _ _ hr));have n3:¬ρ4.old r:=by rw [l4.old,l3.old];exact n1
    have n4:ρ4.ch r->False:=by rw [l4.ch,l3.ch];exact n2
    rcases hab with ⟨rfl,rfl⟩|⟨i,x,x',s,rfl,rfl,-,rfl,-,en,hen,hkey⟩
    ·refine .setObj hr4 (.map (c+1) ?_) n3 (fun h=>(n4 h).elim) (.pure trivial);simp only [Array.toList_push];exact hm4.push c hk4 hv4
    ·cases hk4;rw [Nat.sub_zero] at hen;obtain ⟨en',hen',hke⟩:=hm4.at_ i en hen;rw [hkey] at hke;have hkey':en'.key=.string s:=by
      generalize en'.key=z at hke;cases hke;rfl
     have e1:((es[i]?).map (·.key)).getD (.string s)=.string s:=by
      rw [<-Array.getElem?_toList,hen];exact hkey
     have e2:((es'[i]?).map (·.key)).getD (.string s)=.string s:=by
      rw [<-Array.getElem?_toList,hen'];exact hkey'
     dsimp only;rw [e1,e2];have e3:Instr.keyThatStays (.string s) (.string s)=pure (.string s):=by
      unfold Instr.keyThatStays;have:Instr.sameBits 10000 (.string s) (.string s)=true:=by simp only [Instr.sameBits];exact B8 s
      rw [this];rfl
     rw [e3];refine ag (aa (Q:=QV) (.string s)) (fun ρ5 l5 z z' hz=>?_);refine .setObj (l5 _ _ hr4) (.map c ?_) (by rw [l5.old];exact n3) (by rw [l5.ch];exact fun h=>(n4 h).elim) (.pure trivial);simp only [Array.toList_modify];exact (hm4.mono l5).modify hz (hv4.mono l5) i
   |_=>exact ac _
 |_=>exact ac _
theorem ve (t:TypeId):RS P QV ρ (Instr.makeMap t none) (Instr.makeMap t none):=by
 unfold Instr.makeMap;exact .new (.map 0 .nil) (fun r r' _ _ _=>.pure (.map (.some (.inr ⟨rfl,rfl⟩))))
theorem pV:∀ (n:Nat){ρ:Ren}{a a':Addr}(acc:ByteArray),RA ρ a a'->RS P QE ρ (loadBytes a acc n) (loadBytes a' acc n):=by
 intro n;induction n with
 |zero=>intro ρ a a' acc _;exact aa rfl
 |succ n ih=>
  intro ρ a a' acc h;unfold loadBytes;refine ag (lJ h _) (fun ρ1 l1 v v' hv=>?_);cases hv with
  |int k b=>cases k<;>first|exact ac _|exact ih _ ((h.mono l1).add 1)
  |_=>exact ac _
theorem ni {a a':Addr}(h:RA ρ a a')(u:TypeId)(n:Nat):RS P QE ρ (variablesAt a u n) (variablesAt a' u n):=by
 unfold variablesAt;refine aY ?_ (by simp only [vd,gE,dm]);refine ae (eb h.1) (fun ρ1 l1 s=>?_);rw [<-h.2.1];rcases s with - |⟨e,z⟩<;>exact aa rfl
theorem mf (hno:∀a,¬ρ.old a)(at_:Array TypeId)(t:TypeId){a a':Array Value}(h:RVs ρ a a'):RS P QV ρ (Builtin.unsafeString_ at_ t a) (Builtin.unsafeString_ at_ t a'):=by
 obtain ⟨l⟩:=a;obtain ⟨l'⟩:=a';have hl:l.length=l'.length:=by simpa using h.size
 unfold Builtin.unsafeString_;rcases l with - |⟨x,- |⟨y,- |⟨z,l⟩⟩⟩<;>rcases l' with - |⟨x',- |⟨y',- |⟨z',l'⟩⟩⟩<;>(try (simp at hl;done))
 ·exact ac _
 ·exact ac _
 ·have hx:=h.at_ 0 x x' rfl rfl;have hy:=h.at_ 1 y y' rfl rfl;cases hx with
  |pointer hp=>
   refine ae (eP hy) (fun ρ1 l1 n=>?_);cases at_[0]? with
   |none=>exact ac _
   |some pt=>
    refine av (fun _=>aS (bj _)) (fun _=>?_);refine av (fun _=>aS (ah _)) (fun _=>?_);have hp1:=hp.mono l1;cases hp1 with
    |none=>exact av (fun _=>aa (.string _)) (fun _=>bj _)
    | @some b b' hb=>
     refine av (fun _=>aa (.string _)) (fun _=>?_);refine ae (pT pt) (fun ρ2 l2 el=>?_);refine ae (ni (hb.mono l2) el n.toNat) (fun ρ3 l3 c=>?_);refine av (fun _=>?_) (fun _=>ah _);refine ae (pV n.toNat _ ((hb.mono l2).mono l3)) (fun ρ4 l4 s=>?_);refine .freeze _ (((hb.mono l2).mono l3).mono l4) (by rw [l4.old,l3.old,l2.old,l1.old];exact hno _) (.pure (.string _))
  |_=>exact ac _
 ·exact ac _
theorem B9 {x x' y y':Value}(hx:RV ρ x x')(hy:RV ρ y y'):RS P QV ρ (Builtin.min2 x y) (Builtin.min2 x' y'):=by
 cases hx with
 |int k n=>
  cases hy with
  |int k' n'=>exact aa (.int _ _)
  |pointer h=>cases h<;>first|exact ac _|exact ah _
  |_=>exact ac _
 |string s=>
  cases hy with
  |string s'=>
   unfold Builtin.min2;refine ag (lQ _ _ _) (fun ρ1 l1 v v' hv=>?_);exact ae (pP hv) (fun ρ2 l2 b=>aa (.string _))
  |pointer h=>cases h<;>first|exact ac _|exact ah _
  |_=>exact ac _
 |pointer h=>
  cases h with
  |none=>
   cases hy with
   |pointer k=>cases k<;>first|exact ac _|exact ah _
   |_=>exact ac _
  |some h=>exact ah _
 |_=>
  cases hy with
  |pointer k=>cases k<;>first|exact ac _|exact ah _
  |_=>exact ac _
theorem vg:∀ (l l':List Value){ρ:Ren}{x x':Value},RV ρ x x'->l.length=l'.length->(∀ (j:Nat) v v',l[j]?=some v->l'[j]?=some v'->RV ρ v v')->RS P QV ρ (l.foldlM Builtin.min2 x) (l'.foldlM Builtin.min2 x'):=by
 intro l;induction l with
 |nil=>intro l' ρ x x' hx hl _;cases l' with
  |nil=>exact aa hx
  |cons _ _=>simp at hl
 |cons y l ih=>
  intro l' ρ x x' hx hl hR;cases l' with
  |nil=>simp at hl
  |cons y' l'=>
   simp only [List.foldlM_cons];exact ag (B9 hx (hR 0 y y' rfl rfl)) (fun ρ1 l1 v v' hv=>ih l' hv (by simpa using hl) (fun j a a' h1 h2=>(hR (j+1) a a' h1 h2).mono l1))
theorem DC (at_:Array TypeId)(t:TypeId){a a':Array Value}(h:RVs ρ a a'):RS P QV ρ (Builtin.min_ at_ t a) (Builtin.min_ at_ t a'):=by
 obtain ⟨l⟩:=a;obtain ⟨l'⟩:=a';have hl:l.length=l'.length:=by simpa using h.size
 unfold Builtin.min_;cases l with
 |nil=>cases l' with
  |nil=>exact ac _
  |cons _ _=>simp at hl
 |cons x l=>cases l' with
  |nil=>simp at hl
  |cons x' l'=>exact vg l l' (h.at_ 0 x x' rfl rfl) (by simpa using hl) (fun j v v' h1 h2=>h.at_ (j+1) v v' (by simpa using h1) (by simpa using h2))
theorem Ab {x x':Value}(hx:RV ρ x x'):RS P QV ρ (Instr.panic x) (Instr.panic x'):=by
 unfold Instr.panic;cases hx with
 |iface t h=>exact jA (.iface t h)
 |nilIface=>
  unfold Instr.panicnil;refine ae (ae (.env (fun r=>.pure rfl)) (fun ρ1 l1 r=>?_)) (fun ρ1 l1 n=>?_)
  ·cases r with
   |strings env=>exact aY (aa rfl)
   |_=>exact ac _
  ·refine av (fun _=>jA .nilIface) (fun _=>?_);unfold runtimePanic;refine aY ?_;refine ae (pT _) (fun ρ2 l2 t=>?_);refine ag (lK t (.agg rfl (fun i v v' h=>by simp at h))) (fun ρ3 l3 r r' hr=>?_);exact jA (.iface _ (.pointer (.some hr)))
 |_=>exact ac _
end
end
