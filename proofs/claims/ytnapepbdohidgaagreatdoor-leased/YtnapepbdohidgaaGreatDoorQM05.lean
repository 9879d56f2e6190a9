/- Part of a proof. -/
import Derived.Test.YtnapepbdohidgaaGreatDoorQM04
import Derived.Laws.Sem
namespace Go.Proofs.YtnapepbdohidgaaGreatDoorQ
open Go
def strip (fn : Func) : Func:={ fn with body:=fn.body.map (fun _=>.skip) }
structure GId (P : Program) [Two P] (ρ : Ren) : Prop where
  glob : ∀ g,g < P.globals.size→ρ g g
  prog : ρ.prog=P
  code : ∀ (f : FuncId) fn b,ρ.F f=true→P.funcs[f]?=some fn→fn.body=some b→okCode P ρ.F b=true
  alt : ∀ f,ρ.F f=true→P.alt.funcs[f]?=P.funcs[f]?
  free : ρ.F bigF=true→∀ a,¬ρ.old a
  same : ∀ f : Nat,(P.alt.funcs[f]?).map strip=(P.funcs[f]?).map strip
  size : P.alt.funcs.size=P.funcs.size
  apart : ∀ f,Mk ρ.F f=true→∃ a b,P.alt.funcs[f]?=some a∧P.funcs[f]?=some b∧a.body.isSome=true∧b.body.isSome=true∧a.name=b.name
theorem GId.mono {P : Program} [Two P] {ρ ρ' : Ren} (h : GId P ρ) (l : ρ.le ρ') : GId P ρ':=⟨fun g hg=>l _ _ (h.glob g hg),l.prog.trans h.prog,by rw [l.F]; exact h.code,by rw [l.F]; exact h.alt,by rw [l.F,l.old]; exact h.free,h.same,h.size,by rw [l.F]; exact h.apart⟩
theorem GId.lt {P : Program} [Two P] {ρ : Ren} (h : GId P ρ) {a b : Nat} (k : ρ a b) : (a < P.globals.size)↔(b < P.globals.size):=by
  constructor
  · intro e; rw [←ρ.fn _ _ _ (h.glob a e) k]; exact e
  · intro e; rw [ρ.inj _ _ _ k (h.glob b e)]; exact e
section
variable {P : Program} [Two P]
theorem rs_behindNumber {ρ : Ren} {a a' : Addr} (h : RA ρ a a') : RS P (fun ρ x y=>RA ρ x.1 y.1∧x.2=y.2) ρ (behindNumber a) (behindNumber a'):=by
  unfold behindNumber
  refine rs_bind (rs_numberAt h.1) (fun ρ1 l1 x y e=>?_)
  cases e with
  | none=>exact rs_pure ⟨h.mono l1,rfl⟩
  | some b h=>exact rs_pure ⟨h,rfl⟩
theorem beq_opt {ρ : Ren} {r r' q q' : Option Nat} (h : RNo ρ r r') (k : RNo ρ q q') : (r == q)=(r' == q'):=by
  cases h with
  | none=>cases k <;> rfl
  | some h=>
    cases k with
    | none=>rfl
    | some k=>exact beq_of_rel h k
theorem rs_equalIn (d : Nat) {ρ : Ren} (hI : GId P ρ) (t : TypeId) {x x' y y' : Value} (hx : RV ρ x x') (hy : RV ρ y y') (hn : plainT (P.underlying t)=true∨nilV x=true∨nilV y=true) : RS P QE ρ (Op.equalIn d t x y) (Op.equalIn d t x' y'):=by
  cases d with
  | zero=>exact rs_unsupported _
  | succ d=>
    unfold Op.equalIn
    refine rs_bind (rs_underlying' t) (fun ρ1 l1 ty ty' hd=>?_)
    obtain ⟨rfl,hd⟩:=hd
    have hI1:=hI.mono l1
    have hx1:=hx.mono l1
    have hy1:=hy.mono l1
    clear hI hx hy l1
    cases ty with
    | bool=>cases hx1 <;> first | exact rs_stuck _ | (cases hy1 <;> first | exact rs_stuck _ | exact rs_pure rfl)
    | string=>cases hx1 <;> first | exact rs_stuck _ | (cases hy1 <;> first | exact rs_stuck _ | exact rs_pure rfl)
    | chan u e=>
      cases hx1 with
      | chan h=>
        cases hy1 with
        | chan k=>exact rs_pure (beq_opt h k)
        | _=>exact rs_stuck _
      | _=>exact rs_stuck _
    | func a b c=>cases hx1 <;> first | exact rs_stuck _ | (cases hy1 <;> first | exact rs_stuck _ | exact rs_pure rfl)
    | slice e=>
      cases hx1 with
      | slice n c h=>
        cases hy1 with
        | slice n' c' k=>cases h <;> cases k <;> first | exact rs_stuck _ | exact rs_pure rfl
        | _=>cases h <;> exact rs_stuck _
      | _=>exact rs_stuck _
    | map u e=>
      cases hx1 with
      | map h=>
        cases hy1 with
        | map k=>cases h <;> cases k <;> first | exact rs_stuck _ | exact rs_pure rfl
        | _=>cases h <;> exact rs_stuck _
      | _=>exact rs_stuck _
    | pointer elem=>
      cases hx1 with
      | pointer h=>
        cases hy1 with
        | pointer k=>
          cases h with
          | none=>cases k <;> exact rs_pure rfl
          | some h=>
            cases k with
            | none=>exact rs_pure rfl
            | some k=>simp [hd,plainT,nilV] at hn
        | _=>cases h <;> exact rs_stuck _
      | _=>exact rs_stuck _
    | unsafePointer=>
      cases hx1 with
      | pointer h=>
        cases hy1 with
        | pointer k=>
          show RS P QE ρ1 (samePointer _ _) (samePointer _ _)
          unfold samePointer
          cases h with
          | none=>cases k <;> exact rs_pure rfl
          | some h=>
            cases k with
            | none=>exact rs_pure rfl
            | some k=>simp [hd,plainT,nilV] at hn
        | _=>exact rs_stuck _
      | _=>exact rs_stuck _
    | interface ms=>
      cases hx1 with
      | nilIface=>cases hy1 <;> first | exact rs_stuck _ | exact rs_pure rfl
      | iface tx hv=>
        cases hy1 with
        | nilIface=>exact rs_pure rfl
        | iface ty hw=>simp [hd,plainT,nilV] at hn
        | _=>exact rs_stuck _
      | _=>exact rs_stuck _
    | int kk=>
      cases hx1 with
      | int k n=>
        cases hy1 with
        | int k' n'=>exact rs_ite (fun _=>rs_pure rfl) (fun _=>rs_stuck _)
        | pointer h=>cases h <;> rcases n with (_ | m) | m <;> first | exact rs_pure rfl | exact rs_unsupported _
        | _=>exact rs_stuck _
      | pointer h=>
        cases hy1 with
        | int k n=>cases h <;> rcases n with (_ | m) | m <;> first | exact rs_pure rfl | exact rs_unsupported _
        | pointer k=>
          cases h with
          | none=>cases k <;> exact rs_unsupported _
          | some h=>
            cases k with
            | none=>exact rs_unsupported _
            | some k=>
              refine rs_bind (rs_behindNumber h) (fun ρ2 l2 a a' ha=>?_)
              refine rs_bind (rs_behindNumber (k.mono l2)) (fun ρ3 l3 b b' hb=>?_)
              have ha3:=ha.1.mono l3
              have hb3:=hb.1
              refine rs_program' ?_
              have hI3:=(hI1.mono l2).mono l3
              have e1 : (a.1.block == b.1.block)=(a'.1.block == b'.1.block):=beq_of_rel ha3.1 hb3.1
              have e2 : decide (a.1.block < P.globals.size)=decide (a'.1.block < P.globals.size):=decide_eq_decide.2 (hI3.lt ha3.1)
              rw [e1,e2,addr_beq ha3 hb3]
              refine rs_ite (fun _=>?_) (fun _=>?_)
              · refine rs_bindE (rs_byteOf ha3) (fun ρ4 l4 x=>?_)
                exact rs_bindE (rs_byteOf (hb3.mono l4)) (fun ρ5 l5 y=>rs_pure rfl)
              · refine rs_bind (rs_typeInfo t) (fun ρ4 l4 i i' hi=>?_)
                obtain ⟨rfl,-⟩:=hi
                split
                · exact rs_ite (fun _=>rs_pure rfl) (fun _=>rs_unsupported _)
                · exact rs_unsupported _
        | _=>cases h <;> exact rs_unsupported _
      | _=>
        cases hy1 <;> first | exact rs_stuck _ | exact rs_unsupported _
    | struct fs=>
      cases hx1 with
      | agg hc hR=>
        cases hy1 with
        | agg kc kR=>simp [hd,plainT,nilV] at hn
        | _=>exact rs_stuck _
      | _=>exact rs_stuck _
    | array n e=>
      cases hx1 with
      | agg hc hR=>
        cases hy1 with
        | agg kc kR=>simp [hd,plainT,nilV] at hn
        | _=>exact rs_stuck _
      | _=>exact rs_stuck _
    | float k=>cases hx1 <;> exact rs_stuck _
    | complex k=>cases hx1 <;> exact rs_stuck _
    | _=>exact rs_stuck _
end
section
variable {P : Program} [Two P]
theorem alt_eqGuardType : ∀ (d : Nat) (t : TypeId),P.alt.eqGuardType d t=P.eqGuardType d t:=by
  intro d
  induction d with
  | zero=>intro t; rfl
  | succ d ih=>
    intro t
    unfold Program.eqGuardType
    simp only [ih,alt_underlying]
theorem alt_cellOfByte : ∀ (d : Nat) (t : TypeId) (o : Nat),cellOfByte P.alt d t o=cellOfByte P d t o:=by
  intro d
  induction d with
  | zero=>intro t o; rfl
  | succ d ih=>
    intro t o
    unfold cellOfByte
    simp only [ih,alt_underlying,alt_cellsOf,alt_bytesOf]
    rfl
theorem alt_cellAtBytes (d : Nat) (e : TypeId) (c o : Nat) (b : Int) : cellAtBytes P.alt d e c o b=cellAtBytes P d e c o b:=by
  unfold cellAtBytes
  simp only [alt_cellOfByte,alt_byteOfCell,alt_cellsOf,alt_bytesOf]
  rfl
theorem rs_eqGuardIn (d : Nat) : ∀ {ρ : Ren} (t : TypeId) {x x' y y' : Value},RV ρ x x'→RV ρ y y'→RS P QE ρ (Op.eqGuardIn d t x y) (Op.eqGuardIn d t x' y'):=by
  induction d with
  | zero=>intro ρ t x x' y y' _ _; exact rs_unsupported _
  | succ d ih=>
    intro ρ t x x' y y' hx hy
    unfold Op.eqGuardIn
    refine rs_bindE (rs_underlying t) (fun ρ1 l1 ty=>?_)
    have hx1:=hx.mono l1
    have hy1:=hy.mono l1
    clear hx hy l1
    cases ty with
    | interface ms=>
      cases hx1 with
      | nilIface=>
        cases hy1 with
        | dead _ h=>cases y' <;> first | exact rs_pure rfl | simp [deadV] at h
        | _=>exact rs_pure rfl
      | dead _ h=>cases x' <;> first | exact rs_pure rfl | simp [deadV] at h
      | _=>exact rs_pure rfl
    | struct fs=>
      cases hx1 with
      | agg hc hR=>
        cases hy1 with
        | agg kc kR=>
          have hxs : RVs ρ1 _ _:=⟨hc,hR⟩
          have hys : RVs ρ1 _ _:=⟨kc,kR⟩
          dsimp only
          simp only [←Array.forIn_toList]
          refine rs_bindE (rs_forInSame fs.toList _ _ _ (fun ρ' l f s=>?_)) (fun ρ2 l2 s=>?_)
          · refine rs_ite (fun _=>?_) (fun _=>rs_pure rfl)
            refine rs_bind (rs_part f.type (hxs.mono l) _) (fun ρ3 l3 u u' hu=>?_)
            refine rs_bind (rs_part f.type ((hys.mono l).mono l3) _) (fun ρ4 l4 w w' hw=>?_)
            refine rs_bindE (ih f.type (hu.mono l4) hw) (fun ρ5 l5 b=>?_)
            exact rs_ite (fun _=>rs_pure rfl) (fun _=>rs_pure rfl)
          · obtain ⟨s,-⟩:=s
            cases s <;> exact rs_pure rfl
        | dead _ h=>cases y' <;> first | exact rs_pure rfl | simp [deadV] at h
        | _=>exact rs_pure rfl
      | dead _ h=>cases x' <;> first | exact rs_pure rfl | simp [deadV] at h
      | _=>exact rs_pure rfl
    | array n e=>
      cases hx1 with
      | agg hc hR=>
        cases hy1 with
        | agg kc kR=>
          have hxs : RVs ρ1 _ _:=⟨hc,hR⟩
          have hys : RVs ρ1 _ _:=⟨kc,kR⟩
          refine rs_bindE (rs_sizeOf e) (fun ρ0 l0 z=>?_)
          dsimp only
          simp only [Std.Legacy.Range.forIn_eq_forIn_range']
          refine rs_bindE (rs_forInSame _ _ _ _ (fun ρ' l i s=>?_)) (fun ρ2 l2 s=>?_)
          · refine rs_bind (rs_part e ((hxs.mono l0).mono l) _) (fun ρ3 l3 u u' hu=>?_)
            refine rs_bind (rs_part e (((hys.mono l0).mono l).mono l3) _) (fun ρ4 l4 w w' hw=>?_)
            refine rs_bindE (ih e (hu.mono l4) hw) (fun ρ5 l5 b=>?_)
            exact rs_ite (fun _=>rs_pure rfl) (fun _=>rs_pure rfl)
          · obtain ⟨s,-⟩:=s
            cases s <;> exact rs_pure rfl
        | dead _ h=>cases y' <;> first | exact rs_pure rfl | simp [deadV] at h
        | _=>exact rs_pure rfl
      | dead _ h=>cases x' <;> first | exact rs_pure rfl | simp [deadV] at h
      | _=>exact rs_pure rfl
    | _=>exact rs_pure rfl
variable {ρ : Ren}
theorem rs_eqGuard (op : BinOp) (t : TypeId) (x y : Operand) {a a' b b' : Value} (ha : RV ρ a a') (hb : RV ρ b b') : RS P QU ρ (eqGuard op t x y a b) (eqGuard op t x y a' b'):=by
  unfold eqGuard
  refine rs_ite (fun _=>rs_pure trivial) (fun _=>?_)
  cases ha with
  | nilIface=>
    cases hb with
    | nilIface=>
      refine rs_ite (fun _=>rs_pure trivial) (fun _=>?_)
      exact rs_bindE (rs_eqGuardIn _ t .nilIface .nilIface) (fun ρ1 l1 g=>rs_ite (fun _=>rs_unsupported _) (fun _=>rs_pure trivial))
    | dead _ h=>cases b' <;> first | exact rs_pure trivial | simp [deadV] at h
    | _=>exact rs_pure trivial
  | agg hc hR=>
    cases hb with
    | agg kc kR=>
      refine rs_program' (rs_program' ?_) (by simp only [alt_eqGuardType])
      refine rs_ite (fun _=>rs_pure trivial) (fun _=>?_)
      exact rs_bindE (rs_eqGuardIn _ t (.agg hc hR) (.agg kc kR)) (fun ρ1 l1 g=>rs_ite (fun _=>rs_unsupported _) (fun _=>rs_pure trivial))
    | dead _ h=>cases b' <;> first | exact rs_pure trivial | simp [deadV] at h
    | _=>exact rs_pure trivial
  | dead _ h=>cases a' <;> first | exact rs_pure trivial | simp [deadV] at h
  | _=>exact rs_pure trivial
theorem rs_twoPlaces (hI : GId P ρ) {a a' b b' : Addr} (h : RA ρ a a') (k : RA ρ b b') : RS P QE ρ (Op.twoPlaces a b) (Op.twoPlaces a' b'):=by
  unfold Op.twoPlaces
  have e1 : (a.block != b.block)=(a'.block != b'.block):=congrArg (! ·) (beq_of_rel h.1 k.1)
  have e2 : decide (a.block ≥ P.globals.size)=decide (a'.block ≥ P.globals.size):=decide_eq_decide.2 (by have:=hI.lt h.1; omega)
  refine rs_program' ?_
  rw [e1,e2]
  refine rs_ite (fun _=>rs_bindN (rs_unsupported _)) (fun _=>?_)
  refine rs_bindE (rs_byteOf h) (fun ρ1 l1 x=>?_)
  exact rs_bindE (rs_byteOf (k.mono l1)) (fun ρ2 l2 y=>rs_pure rfl)
theorem rs_addrSub (hI : GId P ρ) (kk : IntKind) {a a' b b' : Addr} (h : RA ρ a a') (k : RA ρ b b') : RS P QV ρ (Op.addrSub kk a b) (Op.addrSub kk a' b'):=by
  unfold Op.addrSub
  exact rs_bindE (rs_twoPlaces hI h k) (fun ρ1 l1 x=>rs_pure (.int _ _))
theorem rs_addrCmp (hI : GId P ρ) (op : BinOp) {a a' b b' : Addr} (h : RA ρ a a') (k : RA ρ b b') : RS P QV ρ (Op.addrCmp op a b) (Op.addrCmp op a' b'):=by
  unfold Op.addrCmp
  exact rs_bindE (rs_twoPlaces hI h k) (fun ρ1 l1 x=>by cases op <;> first | exact rs_unsupported _ | exact rs_pure (.bool _))
theorem rs_addrMod (kk : IntKind) {a a' : Addr} (h : RA ρ a a') (n : Int) : RS P QV ρ (Op.addrMod kk a n) (Op.addrMod kk a' n):=by
  unfold Op.addrMod
  refine rs_bindE (rs_shape h.1) (fun ρ1 l1 s=>?_)
  rcases s with - | ⟨e,z⟩
  · exact rs_unsupported _
  refine rs_bind (rs_typeInfo e) (fun ρ2 l2 i i' hi=>?_)
  obtain ⟨rfl,-⟩:=hi
  refine rs_ite (fun _=>rs_bindN (rs_unsupported _)) (fun _=>?_)
  exact rs_bindE (rs_byteOf ((h.mono l1).mono l2)) (fun ρ3 l3 x=>rs_pure (.int _ _))
def QP : Ren→Value→Value→Prop:=fun ρ v v'=>∃ a a',v=.pointer a∧v'=.pointer a'∧RAo ρ a a'
theorem QP.val {ρ : Ren} {v v' : Value} (h : QP ρ v v') : RV ρ v v':=by
  obtain ⟨a,a',rfl,rfl,h⟩:=h
  exact .pointer h
theorem rs_unsafeAdd (at_ : Array TypeId) (t : TypeId) {b b' : Option Addr} (h0 : RAo ρ b b') {y y' : Value} (hy : RV ρ y y') : RS P QP ρ (Builtin.unsafeAdd_ at_ t #[.pointer b,y]) (Builtin.unsafeAdd_ at_ t #[.pointer b',y']):=by
  unfold Builtin.unsafeAdd_
  refine rs_bindE (rs_asInt hy) (fun ρ1 l1 n=>?_)
  have h1:=h0.mono l1
  refine rs_ite (fun _=>?_) (fun _=>?_)
  · cases h1 with
    | none=>exact rs_unsupported _
    | some h=>
      refine rs_bind (rs_viewAt h.1) (fun ρ2 l2 x y e=>?_)
      obtain ⟨rfl,rfl⟩:=e
      exact rs_pure ⟨_,_,rfl,rfl,.some (h.mono l2)⟩
  · refine rs_ite (fun _=>rs_bindN (rs_unsupported _)) (fun _=>?_)
    cases h1 with
    | none=>exact rs_unsupported _
    | some h=>
      refine rs_bindE (rs_shape h.1) (fun ρ2 l2 s=>?_)
      rcases s with - | ⟨e,z⟩
      · exact rs_unsupported _
      refine rs_program' ?_ ?_
      rotate_left
      · simp only [alt_cellAtBytes,alt_cellsOf,alt_depth]
      rw [←h.2.1]
      split
      · exact rs_pure ⟨_,_,rfl,rfl,.some ⟨l2 _ _ h.1,rfl,h.2.2⟩⟩
      · exact rs_unsupported _
theorem rs_movedNumber (t : TypeId) {x x' y y' : Value} (hx : RV ρ x x') (hy : RV ρ y y') (hp : ∃ a,x=.pointer a) : RS P QV ρ (movedNumber t x y) (movedNumber t x' y'):=by
  obtain ⟨a,rfl⟩:=hp
  unfold movedNumber
  refine rs_bindE (rs_underlying t) (fun ρ1 l1 d=>rs_ite (fun _=>rs_bindN (rs_unsupported _)) (fun _=>?_))
  cases hx with
  | pointer h=>
    cases h with
    | none=>exact (rs_unsafeAdd #[] t .none (hy.mono l1)).imp (fun _ _ _ h=>h.val)
    | some h=>
      refine rs_bind (rs_behindNumber (h.mono l1)) (fun ρ2 l2 a a' ha=>?_)
      obtain ⟨a,lost⟩:=a
      obtain ⟨a',lost'⟩:=a'
      obtain ⟨ha,hl⟩:=ha
      simp only at ha hl
      subst hl
      refine rs_bind (rs_unsafeAdd #[] t (.some ha) ((hy.mono l1).mono l2)) (fun ρ3 l3 v v' hv=>?_)
      obtain ⟨b,b',rfl,rfl,k⟩:=hv
      cases k with
      | none=>exact rs_pure (.pointer .none)
      | some k=>
        unfold asNumber
        exact rs_bind (Q:=fun ρ r r'=>ρ r r') (.new (.number lost k) (fun r r' _ _ _=>.pure (.inr ⟨rfl,rfl⟩))) (fun ρ4 l4 r r' hr=>rs_pure (.pointer (.some ⟨hr,rfl,rfl⟩)))
theorem rs_movedPointer (t : TypeId) {x x' y y' : Value} (hx : RV ρ x x') (hy : RV ρ y y') (hp : ∃ a,x=.pointer a) : RS P QV ρ (movedPointer t x y) (movedPointer t x' y'):=by
  obtain ⟨a,rfl⟩:=hp
  unfold movedPointer
  cases hx with
  | pointer h=>
    cases h with
    | none=>exact (rs_unsafeAdd #[] t .none hy).imp (fun _ _ _ h=>h.val)
    | some h=>
      refine rs_bind (rs_numberAt h.1) (fun ρ1 l1 u u' hu=>?_)
      cases hu with
      | none=>exact (rs_unsafeAdd #[] t (.some (h.mono l1)) (hy.mono l1)).imp (fun _ _ _ h=>h.val)
      | some b k=>exact rs_bindN (rs_unsupported _)
theorem lost_equalL (d : Nat) (t : TypeId) (y : Value) : LostS (Op.equalIn d t (.tuple #[]) y):=by
  cases d with
  | zero=>exact .halt rfl
  | succ d=>
    unfold Op.equalIn
    refine .program (fun p=>?_)
    show LostS (Sem.bind (match p.underlying t with | some i => Pure.pure i | none => stuck "no such type") _)
    cases p.underlying t with
    | none=>exact .halt rfl
    | some ty=>cases ty <;> cases y <;> exact .halt rfl
theorem lost_equalR (d : Nat) (t : TypeId) (x : Value) : LostS (Op.equalIn d t x (.tuple #[])):=by
  cases d with
  | zero=>exact .halt rfl
  | succ d=>
    unfold Op.equalIn
    refine .program (fun p=>?_)
    show LostS (Sem.bind (match p.underlying t with | some i => Pure.pure i | none => stuck "no such type") _)
    cases p.underlying t with
    | none=>exact .halt rfl
    | some ty=>
      cases x with
      | pointer a=>cases ty <;> cases a <;> exact .halt rfl
      | slice a n c=>cases ty <;> cases a <;> exact .halt rfl
      | map a=>cases ty <;> cases a <;> exact .halt rfl
      | int k n=>cases ty <;> rcases n with (_ | m) | m <;> exact .halt rfl
      | _=>cases ty <;> exact .halt rfl
theorem lost_binOpL (op : BinOp) (t : TypeId) (y : Value) : LostS (binOp op t (.tuple #[]) y):=by
  unfold binOp
  cases op <;> first
    | exact (lost_equalL _ t y).bind _
    | (cases y <;> exact .halt rfl)
theorem lost_binOpR (op : BinOp) (t : TypeId) (x : Value) : LostS (binOp op t x (.tuple #[])):=by
  unfold binOp
  cases x with
  | pointer a=>cases a <;> cases op <;> first | exact (lost_equalR _ t _).bind _ | exact .halt rfl
  | _=>cases op <;> first | exact (lost_equalR _ t _).bind _ | exact .halt rfl
theorem rs_binOp (hI : GId P ρ) (op : BinOp) (t : TypeId) {x x' y y' : Value} (hx : RV ρ x x') (hy : RV ρ y y') (hn : (op=.eql∨op=.neq)→RS P QE ρ (Op.equal t x y) (Op.equal t x' y')) : RS P QV ρ (binOp op t x y) (binOp op t x' y'):=by
  have eqq : RS P QE ρ (Op.equal t x y) (Op.equal t x' y')→∀ b : Bool,RS P QV ρ (do let e ←Op.equal t x y; pure (Value.bool (if b then !e else e))) (do let e ←Op.equal t x' y'; pure (Value.bool (if b then !e else e))):=fun h b=>rs_bindE h (fun ρ1 l1 e=>rs_pure (.bool _))
  have hx0:=hx
  have hy0:=hy
  unfold binOp
  cases hx with
  | dead _ _=>exact .lost (lost_binOpL op t y) _
  | pointer h=>
    cases hy with
    | dead _ _=>exact .lost (lost_binOpR op t _) _
    | pointer k=>
      cases h with
      | none=>cases k <;> cases op <;> first | exact rs_stuck _ | exact rs_unsupported _ | exact eqq (hn (.inl rfl)) false | exact eqq (hn (.inr rfl)) true
      | some h=>
        cases k with
        | none=>cases op <;> first | exact rs_stuck _ | exact rs_unsupported _ | exact eqq (hn (.inl rfl)) false | exact eqq (hn (.inr rfl)) true
        | some k=>
          cases op <;> first
            | exact rs_unsupported _
            | exact eqq (hn (.inl rfl)) false
            | exact eqq (hn (.inr rfl)) true
            | exact rs_bind (rs_behindNumber h) (fun ρ1 l1 a a' ha=>rs_bind (rs_behindNumber (k.mono l1)) (fun ρ2 l2 b b' hb=>rs_addrSub ((hI.mono l1).mono l2) _ (ha.1.mono l2) hb.1))
            | exact rs_bind (rs_behindNumber h) (fun ρ1 l1 a a' ha=>rs_bind (rs_behindNumber (k.mono l1)) (fun ρ2 l2 b b' hb=>rs_addrCmp ((hI.mono l1).mono l2) _ (ha.1.mono l2) hb.1))
    | int k n=>
      cases op with
      | add=>exact rs_bindE (rs_underlying t) (fun ρ1 l1 d=>rs_ite (fun _=>rs_movedPointer t (hx0.mono l1) (hy0.mono l1) ⟨_,rfl⟩) (fun _=>rs_movedNumber t (hx0.mono l1) (hy0.mono l1) ⟨_,rfl⟩))
      | sub=>exact rs_movedNumber t hx0 (.int _ _) ⟨_,rfl⟩
      | rem=>
        cases h with
        | none=>exact rs_unsupported _
        | some h=>exact rs_bind (rs_behindNumber h) (fun ρ1 l1 a a' ha=>rs_addrMod _ ha.1 _)
      | and=>
        cases h with
        | none=>exact rs_unsupported _
        | some h=>exact rs_bind (rs_behindNumber h) (fun ρ1 l1 a a' ha=>rs_addrMod _ ha.1 _)
      | _=>cases h <;> first | exact rs_unsupported _ | exact eqq (hn (.inl rfl)) false | exact eqq (hn (.inr rfl)) true
    | _=>cases h <;> cases op <;> first | exact rs_unsupported _ | exact eqq (hn (.inl rfl)) false | exact eqq (hn (.inr rfl)) true
  | int k n=>
    cases hy with
    | dead _ _=>exact .lost (lost_binOpR op t _) _
    | pointer h=>
      cases op with
      | add=>exact rs_movedNumber t hy0 hx0 ⟨_,rfl⟩
      | and=>
        cases h with
        | none=>exact rs_unsupported _
        | some h=>exact rs_bind (rs_behindNumber h) (fun ρ1 l1 a a' ha=>rs_addrMod _ ha.1 _)
      | _=>cases h <;> first | exact rs_unsupported _ | exact eqq (hn (.inl rfl)) false | exact eqq (hn (.inr rfl)) true
    | int k' n'=>
      cases op <;> first
        | exact rs_shift _ _ _ _ _
        | exact rs_ite (fun _=>rs_stuck _) (fun _=>rs_intArith _ _ _ _)
        | exact rs_ite (fun _=>rs_stuck _) (fun _=>rs_intDiv _ _ _ _)
        | exact rs_ite (fun _=>rs_stuck _) (fun _=>rs_intBits _ _ _ _)
        | exact rs_ite (fun _=>rs_stuck _) (fun _=>rs_intCmp _ _ _)
    | _=>cases op <;> first | exact rs_stuck _ | exact eqq (hn (.inl rfl)) false | exact eqq (hn (.inr rfl)) true
  | string s=>
    cases hy with
    | dead _ _=>exact .lost (lost_binOpR op t _) _
    | pointer h=>cases op <;> first | exact rs_unsupported _ | exact eqq (hn (.inl rfl)) false | exact eqq (hn (.inr rfl)) true
    | string s'=>cases op <;> exact rs_stringOp _ _ _
    | _=>cases op <;> first | exact rs_stuck _ | exact eqq (hn (.inl rfl)) false | exact eqq (hn (.inr rfl)) true
  | _=>
    cases hy with
    | dead _ _=>exact .lost (lost_binOpR op t _) _
    | pointer h=>cases op <;> first | exact rs_unsupported _ | exact eqq (hn (.inl rfl)) false | exact eqq (hn (.inr rfl)) true
    | _=>cases op <;> first | exact rs_stuck _ | exact eqq (hn (.inl rfl)) false | exact eqq (hn (.inr rfl)) true
end
section
variable {P : Program} [Two P] {ρ : Ren}
theorem rs_mapM {α β : Type} : ∀ (l : List α) {ρ : Ren} (f : α→Sem β),(∀ ρ',ρ.le ρ'→∀ a,RS P QE ρ' (f a) (f a))→RS P QE ρ (l.mapM f) (l.mapM f):=by
  intro l
  induction l with
  | nil=>intro ρ f _; simp only [List.mapM_nil]; exact rs_pure rfl
  | cons x l ih=>
    intro ρ f hf
    simp only [List.mapM_cons]
    refine rs_bindE (hf ρ (Ren.le_refl _) x) (fun ρ1 l1 b=>?_)
    exact rs_bindE (ih f (fun ρ' l'=>hf ρ' (Ren.le_trans l1 l'))) (fun ρ2 l2 bs=>rs_pure rfl)
theorem rs_build (hZ : ZeroOk P) (t : TypeId) {a a' : Array (Nat×Value)} (h : RPs ρ a.toList a'.toList) : RS P QV ρ (Instr.build t a) (Instr.build t a'):=by
  unfold Instr.build
  refine rs_bind (rs_zeroValue hZ t) (fun ρ1 l1 z z' hz=>?_)
  refine rs_bindE (rs_underlying t) (fun ρ2 l2 d=>?_)
  have hc:=RV.cellsRel (hz.mono l2)
  have h2:=(h.mono l1).mono l2
  cases d with
  | struct fields=>
    dsimp only
    rw [Array.mapM_eq_mapM_toList]
    refine rs_bindE (rs_bindE (rs_mapM _ _ (fun ρ' l f=>rs_bindE (rs_sizeOf f.type) (fun ρ3 l3 n=>rs_pure rfl))) (fun ρ' l x=>rs_pure rfl)) (fun ρ3 l3 places=>?_)
    rcases fill_rel (fun i=>places[i]?) (h2.mono l3) (hc.mono l3) with ⟨h1,h2⟩ | ⟨c,c',h1,h2,hc⟩
    · rw [h1,h2]; exact rs_stuck _
    · rw [h1,h2]; exact rs_pure (.agg hc.size hc.at_)
  | array n elem=>
    refine rs_bindE (rs_sizeOf elem) (fun ρ3 l3 size=>?_)
    rcases fill_rel (fun i=>some (i * size,size)) (h2.mono l3) (hc.mono l3) with ⟨h1,h2⟩ | ⟨c,c',h1,h2,hc⟩
    · rw [h1,h2]; exact rs_stuck _
    · rw [h1,h2]; exact rs_pure (.agg hc.size hc.at_)
  | _=>exact rs_stuck _
theorem rs_goPanic {α β : Type} {Q : Ren→α→β→Prop} {v v' : Value} (h : RV ρ v v') : RS P Q ρ (goPanic v) (goPanic v'):=.halt (.panic h)
theorem rs_ofValue {f f' : Value} (hf : RV ρ f f') {a a' : Array Value} (ha : RVs ρ a a') : RS P (fun ρ d d'=>RD ρ d d') ρ (Deferred.ofValue f a) (Deferred.ofValue f' a'):=by
  unfold Deferred.ofValue
  cases hf with
  | func hf h1 h2 k1 k2=>exact rs_pure ⟨.fn hf ⟨h2,k2⟩,RVs.append ⟨h1,k1⟩ ha⟩
  | nilFunc=>exact rs_pure ⟨.nil,ha⟩
  | _=>exact rs_stuck _
def QL (l : Nat) : Ren→Loop→Loop→Prop:=fun ρ r r'=>RL ρ r r'∧¬ρ.old l∧¬ρ.ch l
theorem rs_getLoop {l l' : Nat} (h : ρ l l') : RS P (QL l) ρ (Instr.getLoop l) (Instr.getLoop l'):=by
  unfold Instr.getLoop
  refine rs_bind (rs_getObj h) (fun ρ1 l1 o o' ho=>?_)
  obtain ⟨ho,h1,h2⟩:=ho
  cases ho with
  | loop hl=>exact rs_pure ⟨hl,(fun k=>by cases h1 k),(fun k=>by have:=h2 k; simp [Obj.isChan] at this)⟩
  | _=>exact rs_stuck _
theorem rs_setObj {r r' : Nat} (h : ρ r r') {o o' : Obj} (ho : RO ρ o o') (hn : ¬ρ.old r) (hc : ¬ρ.ch r) (hs : o.isChan=false:=by rfl) : RS P QU ρ (setObj r o) (setObj r' o'):=.setObj h ho hn (fun e=>absurd e hc) (.pure trivial) (fun e=>by rw [hs] at e; cases e)
theorem rs_beginRound {l l' : Nat} (h : ρ l l') : RS P QU ρ (Instr.beginRound l) (Instr.beginRound l'):=by
  unfold Instr.beginRound
  refine rs_bind (rs_getLoop h) (fun ρ1 l1 r r' hr=>?_)
  obtain ⟨hr,h1,h2⟩:=hr
  refine rs_bind (rs_setObj (l1 _ _ h) (.loop ⟨rfl,hr.pending,hr.fn,hr.tmps,hr.params,hr.assign,hr.body,hr.defers,hr.okA,hr.okBo,hr.okP⟩) h1 h2) (fun ρ2 l2 _ _ _=>?_)
  rw [hr.state]
  cases r'.state <;> first | exact rs_pure trivial | exact rs_error _
theorem rs_endRound {l l' : Nat} (h : ρ l l') (j : Option Code) (hj : ∀ c,j=some c→okCode ρ.prog ρ.F c=true) : RS P QV ρ (Instr.endRound l j) (Instr.endRound l' j):=by
  unfold Instr.endRound
  refine rs_bind (rs_getLoop h) (fun ρ1 l1 r r' hr=>?_)
  obtain ⟨hr,h1,h2⟩:=hr
  exact rs_bind (rs_setObj (l1 _ _ h) (.loop ⟨rfl,rfl,hr.fn,hr.tmps,hr.params,hr.assign,hr.body,hr.defers,hr.okA,hr.okBo,by rw [l1.prog,l1.F]; exact hj⟩) h1 h2) (fun ρ2 l2 _ _ _=>rs_pure (.bool _))
theorem rs_endLoop {l l' : Nat} (h : ρ l l') : RS P (fun ρ a b=>a=b∧∀ c,a=some c→okCode ρ.prog ρ.F c=true) ρ (Instr.endLoop l) (Instr.endLoop l'):=by
  unfold Instr.endLoop
  refine rs_bind (rs_getLoop h) (fun ρ1 l1 r r' hr=>?_)
  obtain ⟨hr,h1,h2⟩:=hr
  rw [hr.state,←hr.pending]
  refine rs_ite (fun _=>rs_bindN (rs_error _)) (fun _=>?_)
  exact rs_bind (rs_setObj (l1 _ _ h) (.loop ⟨rfl,by simp only [hr.pending],hr.fn,hr.tmps,hr.params,hr.assign,hr.body,hr.defers,hr.okA,hr.okBo,hr.okP⟩) h1 h2) (fun ρ2 l2 _ _ _=>rs_pure ⟨rfl,by rw [l2.prog,l2.F]; exact hr.okP⟩)
def QEn : Ren→Nat×List Deferred→Nat×List Deferred→Prop:=fun ρ x y=>ρ x.1 y.1∧RDs ρ x.2 y.2
theorem rs_enterLoop (fn : FuncId) {t t' : Array Value} (ht : RVs ρ t t') (ps : Array Tmp) (a b : Code) (ha : okCode ρ.prog ρ.F a=true) (hb : okCode ρ.prog ρ.F b=true) {r r' : Option Nat} (hr : RNo ρ r r') : RS P QEn ρ (Instr.enterLoop fn t ps a b r) (Instr.enterLoop fn t' ps a b r'):=by
  unfold Instr.enterLoop
  have fin : ∀ (ρ1 : Ren),ρ.le ρ1→∀ (d d' : Nat) (m m' : List Deferred),ρ1 d d'→RDs ρ1 m m'→RS P QEn ρ1 (do let l ←newObj (.loop { state:=.ready,pending:=none,fn,tmps:=t,params:=ps,assign:=a,body:=b,defers:=d }); pure (l,m)) (do let l ←newObj (.loop { state:=.ready,pending:=none,fn,tmps:=t',params:=ps,assign:=a,body:=b,defers:=d' }); pure (l,m')):=fun ρ1 l1 d d' m m' hd hm=>
    .new (.loop ⟨rfl,rfl,rfl,ht.mono l1,rfl,rfl,rfl,hd,by rw [l1.prog,l1.F]; exact ha,by rw [l1.prog,l1.F]; exact hb,fun c e=>by cases e⟩) (fun x x' h1 h2 _=>.pure ⟨.inr ⟨rfl,rfl⟩,hm.mono (le_ext _ _ _ h1 h2)⟩)
  cases hr with
  | some h=>
    refine rs_bind (rs_getLoop h) (fun ρ1 l1 q q' hq=>?_)
    exact rs_bind (Q:=fun ρ (x y : Nat×List Deferred)=>ρ x.1 y.1∧RDs ρ x.2 y.2) (rs_pure ⟨hq.1.defers,.nil⟩) (fun ρ2 l2 x y h=>by
      obtain ⟨d,m⟩:=x
      obtain ⟨d',m'⟩:=y
      exact fin ρ2 (Ren.le_trans l1 l2) d d' m m' h.1 h.2)
  | none=>
    refine rs_bind (Q:=fun ρ (x y : Nat)=>ρ x y) (.new (.deferred .nil) (fun x x' h1 h2 _=>.pure (.inr ⟨rfl,rfl⟩))) (fun ρ1 l1 q q' hq=>?_)
    exact rs_bind (Q:=fun ρ (x y : Nat×List Deferred)=>ρ x.1 y.1∧RDs ρ x.2 y.2) (rs_pure ⟨hq,.cons ⟨.collected hq,RVs.nil⟩ .nil (.inl ⟨_,rfl⟩)⟩) (fun ρ2 l2 x y h=>by
      obtain ⟨d,m⟩:=x
      obtain ⟨d',m'⟩:=y
      exact fin ρ2 (Ren.le_trans l1 l2) d d' m m' h.1 h.2)
theorem rs_deferInRound {l l' : Nat} (h : ρ l l') {d d' : Deferred} (hS : (ρ.F bigS || ρ.F bigM)=true) (hd : RD ρ d d') : RS P QU ρ (Instr.deferInRound l d) (Instr.deferInRound l' d'):=by
  unfold Instr.deferInRound
  refine rs_bind (rs_getLoop h) (fun ρ1 l1 r r' hr=>?_)
  refine rs_bind (rs_getObj hr.1.defers) (fun ρ2 l2 o o' ho=>?_)
  obtain ⟨ho,h1,h2⟩:=ho
  cases ho with
  | deferred hl=>exact rs_setObj (l2 _ _ hr.1.defers) (.deferred (.cons ((hd.mono l1).mono l2) hl (.inr (by rw [l2.F,l1.F]; exact hS)))) (fun k=>by cases h1 k) (fun k=>by have:=h2 k; simp [Obj.isChan] at this)
  | taken=>exact .lost (.halt rfl) _
  | _=>exact rs_stuck _
theorem rs_takeDeferred {l l' : Nat} (h : ρ l l') : RS P (fun ρ a b=>RDs ρ a b) ρ (Instr.takeDeferred l) (Instr.takeDeferred l'):=by
  unfold Instr.takeDeferred
  refine rs_bind (rs_getObj h) (fun ρ2 l2 o o' ho=>?_)
  obtain ⟨ho,h1,h2⟩:=ho
  cases ho with
  | deferred hl=>exact rs_bind (rs_setObj (l2 _ _ h) .taken (fun k=>by cases h1 k) (fun k=>by have:=h2 k; simp [Obj.isChan] at this)) (fun ρ3 l3 _ _ _=>rs_pure (hl.mono l3))
  | _=>exact rs_stuck _
theorem RVs.zipSet (ps : List Tmp) : ∀ (a a' : List Value) {c c' : Array Value},a.length=a'.length→(∀ (j : Nat) v v',a[j]?=some v→a'[j]?=some v'→RV ρ v v')→RVs ρ c c' →
    RVs ρ ((ps.zip a).foldl (fun tmps (x : Tmp×Value)=>tmps.setIfInBounds x.1 x.2) c) ((ps.zip a').foldl (fun tmps (x : Tmp×Value)=>tmps.setIfInBounds x.1 x.2) c'):=by
  induction ps with
  | nil=>intro a a' c c' _ _ hc; exact hc
  | cons p ps ih=>
    intro a a' c c' hl hv hc
    cases a with
    | nil=>cases a' with
      | nil=>exact hc
      | cons _ _=>simp at hl
    | cons x a=>
      cases a' with
      | nil=>simp at hl
      | cons x' a'=>
        simp only [List.zip_cons_cons,List.foldl_cons]
        exact ih a a' (by simpa using hl) (fun j v v' h1 h2=>hv (j+1) v v' h1 h2) (hc.set _ (hv 0 x x' rfl rfl))
end
section
variable {P : Program} [Two P]
theorem rs_elemOf {ρ : Ren} (t : TypeId) : RS P QE ρ (elemOf t) (elemOf t):=by
  unfold elemOf
  refine rs_bindE (rs_underlying t) (fun ρ1 l1 d=>?_)
  cases d <;> first | exact rs_pure rfl | exact rs_stuck _
variable {ρ : Ren}
structure RC (ρ : Ren) (c c' : CommCase) : Prop where
  chan : RV ρ c.chan c'.chan
  send : (c.send=none∧c'.send=none)∨∃ v v',c.send=some v∧c'.send=some v'∧RV ρ v v'
  zero : RV ρ c.zero c'.zero
def isComm : Op→Bool
  | .send _ _ | .recv _ _ _=>true
  | _=>false
inductive RX (ρ : Ren) : Next→Next→Prop
  | value {v v' : Value} (h : RV ρ v v') : RX ρ (.value v) (.value v')
  | skip : RX ρ .skip .skip
  | enter (f : FuncId) (hf : ρ.F f=true) {a a' : Array Value} (h : RVs ρ a a') : RX ρ (.enter f a) (.enter f a')
  | round {l l' : Nat} (hl : ρ l l') (f : FuncId) {t t' : Array Value} (ht : RVs ρ t t') (a b : Code) (ha : okCode ρ.prog ρ.F a=true) (hb : okCode ρ.prog ρ.F b=true) : RX ρ (.round l f t a b) (.round l' f t' a b)
  | defer (hS : (ρ.F bigS || ρ.F bigM)=true) {d d' : Deferred} (h : RD ρ d d') : RX ρ (.defer d) (.defer d')
  | spawn (hC : ρ.F bigM=true) {d d' : Deferred} (h : RD ρ d d') : RX ρ (.spawn d) (.spawn d')
inductive RX1 (ρ : Ren) : Next→Next→Prop
  | of {a b : Next} (h : RX ρ a b) : RX1 ρ a b
  | mk (f : FuncId) (hM : Mk ρ.F f=true) {a a' : Array Value} (h : RVs ρ a a') (hs : a.size=2) : RX1 ρ (.enter f a) (.enter f a')
def ExtOk (P : Program) [Two P] (F : FuncId→Bool) : Prop:=∀ f fn,F f=true→P.funcs[f]?=some fn→fn.body=none→∀ ρ a a',ρ.F=F→GId P ρ→RVs ρ a a'→RS P RX ρ (callFunc f a) (callFunc f a')
theorem rs_callFunc (hE : ExtOk P ρ.F) (hI : GId P ρ) (f : FuncId) (hF : ρ.F f = true) (hn : ∀ fn, P.funcs[f]? = some fn → fn.name ≠ "runtime.NumGoroutine") {a a' : Array Value} (h : RVs ρ a a') : RS P RX ρ (callFunc f a) (callFunc f a') := by
  cases hf : P.funcs[f]? with
  | none=>
    unfold callFunc
    refine rs_program' ?_ (by simp only [hI.alt f hF])
    rw [hf]
    exact rs_stuck _
  | some fn=>
    cases hb : fn.body with
    | none=>exact hE f fn hF hf hb ρ a a' rfl hI h
    | some b=>
      unfold callFunc
      refine rs_program' ?_ (by simp only [hI.alt f hF])
      have h1:=hn fn hf
      simp only [hf,hb]
      have e : (fn.name == "runtime.NumGoroutine") = false := beq_eq_false_iff_ne.2 h1
      simp only [e]
      exact rs_pure (.enter f hF h)
theorem rs_callMk (hI : GId P ρ) (f : FuncId) (hM : Mk ρ.F f = true) (hn : ∀ fn, P.funcs[f]? = some fn → fn.name ≠ "runtime.NumGoroutine") {a a' : Array Value} (h : RVs ρ a a') (hs : a.size = 2) : RS P RX1 ρ (callFunc f a) (callFunc f a') := by
  obtain ⟨x,y,h1,h2,h3,h4,h5⟩:=hI.apart f hM
  have h6 : (y.name == "runtime.NumGoroutine") = false := beq_eq_false_iff_ne.2 (hn y h2)
  have h7 : (x.name == "runtime.NumGoroutine") = false := by rw [h5]; exact h6
  have h8 : x.body.isNone=false:=by cases hx : x.body <;> simp [hx] at h3 ⊢
  have h9 : y.body.isNone=false:=by cases hx : y.body <;> simp [hx] at h4 ⊢
  unfold callFunc
  refine rs_program' ?_ (by simp only [h1,h2,h6,h7,h8,h9,Bool.false_eq_true,if_false])
  simp only [h2,h6,h9]
  exact rs_pure (.mk f hM h hs)
theorem rs_yield {l l' : Nat} (h : ρ l l') {a a' : Array Value} (ha : RVs ρ a a') : RS P RX ρ (Instr.yield l a) (Instr.yield l' a'):=by
  unfold Instr.yield
  refine rs_bind (rs_getLoop h) (fun ρ1 l1 r r' hr=>?_)
  obtain ⟨hr,-,-⟩:=hr
  rw [←ha.size,←hr.params,←hr.fn,←hr.assign,←hr.body]
  refine rs_ite (fun _=>rs_bindN (rs_stuck _)) (fun _=>rs_pure (.round (l1 _ _ h) _ ?_ _ _ hr.okA hr.okBo))
  have ha1:=ha.mono l1
  have:=RVs.zipSet r.params.toList a.toList a'.toList (by simpa using ha1.size) (fun j v v' h1 h2=>ha1.at_ j v v' (by simpa using h1) (by simpa using h2)) hr.tmps
  rw [←Array.toList_zip,←Array.toList_zip,Array.foldl_toList,Array.foldl_toList] at this
  exact this
end
end Go.Proofs.YtnapepbdohidgaaGreatDoorQ
