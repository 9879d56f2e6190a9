/- Part of a proof. -/
import Derived.Test.YtnapepbdohidgaaGreatDoorQM05
import Derived.Test.YtnapepbdohidgaaGreatDoorQM02
import Derived.RunT
namespace Go.Proofs.YtnapepbdohidgaaGreatDoorQ
open Go
theorem ba_eq {a b : ByteArray} (h : (a == b)=true) : a=b:=by
  obtain ⟨x⟩:=a
  obtain ⟨y⟩:=b
  have h2 : (x == y)=true:=h
  rw [eq_of_beq h2]
theorem ba_refl (a : ByteArray) : (a == a)=true:=by
  obtain ⟨x⟩:=a
  exact (beq_self_eq_true x : (x == x)=true)
theorem okMap_of {P : Program} {t : TypeId} (h : okMap P t=true) : ∃ k e,P.underlying t=some (.map k e)∧P.underlying k=some .string:=by
  unfold okMap at h
  split at h
  · rename_i k e h1
    split at h
    · rename_i h2; exact ⟨k,e,h1,h2⟩
    · cases h
  · cases h
section
variable {P : Program} [Two P]
theorem alt_alike : ∀ (n : Nat) (t u : TypeId),P.alt.alikeButTags n t u=P.alikeButTags n t u:=by
  intro n
  induction n with
  | zero=>intro t u; rfl
  | succ n ih=>
    intro t u
    unfold Program.alikeButTags
    simp only [ih]
    rfl
theorem alt_underlyingId (t : TypeId) : P.alt.underlyingId t=P.underlyingId t:=rfl
theorem alt_stoodInAs (t : TypeId) : P.alt.stoodInAs t=P.stoodInAs t:=by
  unfold Program.stoodInAs
  simp only [alt_alike,alt_depth,alt_underlying,alt_underlyingId]
  rfl
theorem alt_stoodInHeld (t : TypeId) : P.alt.stoodInHeld t=P.stoodInHeld t:=by
  unfold Program.stoodInHeld
  simp only [alt_stoodInAs]
  rfl
theorem alt_sameLayout : ∀ (n : Nat) (t u : TypeId),sameLayout P.alt n t u=sameLayout P n t u:=by
  intro n
  induction n with
  | zero=>intro t u; rfl
  | succ n ih=>
    intro t u
    unfold sameLayout
    simp only [ih,alt_stoodInHeld,alt_underlyingId,alt_underlying]
theorem alt_rowAt (f : TypeId→Bool) : ∀ (d : Nat) (e : TypeId) (c o n : Nat),rowAt P.alt f d e c o n=rowAt P f d e c o n:=by
  intro d
  induction d with
  | zero=>intro e c o n; rfl
  | succ d ih=>
    intro e c o n
    unfold rowAt
    simp only [ih,alt_stoodInHeld,alt_underlying,alt_cellsOf]
    rfl
theorem alt_liesAt : ∀ (d : Nat) (e : TypeId) (c o : Nat) (u : TypeId) (n : Nat),liesAt P.alt d e c o u n=liesAt P d e c o u n:=by
  intro d
  induction d with
  | zero=>intro e c o u n; rfl
  | succ d ih=>
    intro e c o u n
    unfold liesAt
    simp only [ih,alt_rowAt,alt_sameLayout,alt_depth,alt_underlying]
theorem rs_forInMem {α σ : Type} {ρ : Ren} (l : List α) (s : σ) (f f' : α→σ→Sem (ForInStep σ)) (hf : ∀ ρ',ρ.le ρ'→∀ a∈l,∀ s,RS P QE ρ' (f a s) (f' a s)) : RS P QE ρ (forIn l s f) (forIn l s f'):=
  rs_forInList l l s (fun _ a a'=>a=a'∧a∈l) (fun _ _ _ _ _ h=>h) f f' rfl (fun j a a' h1 h2=>by rw [h1] at h2; exact ⟨Option.some.inj h2,List.mem_of_getElem? h1⟩) (fun ρ' l a a' s h=>by obtain ⟨rfl,hm⟩:=h; exact hf ρ' l a hm s)
theorem rs_equalD (d : Nat) : ∀ (n : Nat) {ρ : Ren},GId P ρ→∀ (t : TypeId) {x x' y y' : Value},RV ρ x x'→RV ρ y y'→dataT P n t=true→RS P QE ρ (Op.equalIn d t x y) (Op.equalIn d t x' y'):=by
  induction d with
  | zero=>intro n ρ _ t x x' y y' _ _ _; exact rs_unsupported _
  | succ d ih=>
    intro n ρ hI t x x' y y' hx hy hD
    cases n with
    | zero=>simp [dataT] at hD
    | succ n=>
      unfold dataT at hD
      by_cases hp : plainT (P.underlying t)=true
      · exact rs_equalIn (d+1) hI t hx hy (.inl hp)
      unfold Op.equalIn
      refine rs_bind (rs_underlying' t) (fun ρ1 l1 ty ty' hd=>?_)
      obtain ⟨rfl,hd⟩:=hd
      rw [hd] at hD hp
      have hI1:=hI.mono l1
      have hx1:=hx.mono l1
      have hy1:=hy.mono l1
      clear hx hy hI
      cases ty with
      | struct fs=>
        simp only at hD
        cases hx1 with
        | agg hc hR=>
          cases hy1 with
          | agg kc kR=>
            have hxs : RVs ρ1 _ _:=⟨hc,hR⟩
            have hys : RVs ρ1 _ _:=⟨kc,kR⟩
            refine rs_program' ?_ (by simp only [alt_stoodInHeld])
            refine rs_ite (fun _=>rs_bindN (rs_unsupported _)) (fun _=>?_)
            dsimp only
            simp only [←Array.forIn_toList]
            refine rs_bindE (rs_forInMem fs.toList _ _ _ (fun ρ' l f hf s=>?_)) (fun ρ2 l2 s=>?_)
            · have hDf : dataT P n f.type=true:=by
                obtain ⟨i,hi,rfl⟩:=List.mem_iff_getElem.1 hf
                have:=Array.all_eq_true.1 hD i (by simpa using hi)
                simpa using this
              refine rs_ite (fun _=>?_) (fun _=>rs_pure rfl)
              refine rs_bind (rs_part f.type (hxs.mono l) _) (fun ρ3 l3 u u' hu=>?_)
              refine rs_bind (rs_part f.type ((hys.mono l).mono l3) _) (fun ρ4 l4 w w' hw=>?_)
              refine rs_bindE (ih n (((hI1.mono l).mono l3).mono l4) f.type (hu.mono l4) hw hDf) (fun ρ5 l5 b=>?_)
              exact rs_ite (fun _=>rs_pure rfl) (fun _=>rs_pure rfl)
            · obtain ⟨s,-⟩:=s
              cases s <;> exact rs_pure rfl
          | _=>exact rs_stuck _
        | _=>exact rs_stuck _
      | bool=>simp [plainT] at hp
      | string=>simp [plainT] at hp
      | int k=>simp [plainT] at hp
      | _=>simp at hD
theorem rs_equalStr (d : Nat) {ρ : Ren} (t : TypeId) (ht : P.underlying t=some .string) {x x' y y' : Value} (hx : RV ρ x x') (hy : RV ρ y y') : RS P (fun _ a b=>a=b∧(a=true→∃ s,x=.string s∧y=.string s)) ρ (Op.equalIn d t x y) (Op.equalIn d t x' y'):=by
  cases d with
  | zero=>exact rs_unsupported _
  | succ d=>
    unfold Op.equalIn
    refine rs_bind (rs_underlying' t) (fun ρ1 l1 ty ty' hd=>?_)
    obtain ⟨rfl,hd⟩:=hd
    rw [ht] at hd
    cases hd
    cases hx with
    | string s=>
      cases hy with
      | string s'=>exact rs_pure ⟨rfl,fun h=>⟨s,rfl,by rw [ba_eq h]⟩⟩
      | _=>exact rs_stuck _
    | _=>exact rs_stuck _
def QF (k : Value) (l : List MapEntry) (i0 : Nat) : Ren→Option (Nat×Value)→Option (Nat×Value)→Prop:=fun ρ a b=>
  (a=none∧b=none)∨∃ i v v' s,a=some (i,v)∧b=some (i,v')∧RV ρ v v'∧k=.string s∧i0≤i∧∃ e,l[i - i0]?=some e∧e.key=.string s
theorem QF.tail {k : Value} {e : MapEntry} {l : List MapEntry} {i0 : Nat} {ρ : Ren} {a b : Option (Nat×Value)} (h : QF k l (i0+1) ρ a b) : QF k (e :: l) i0 ρ a b:=by
  rcases h with h | ⟨i,v,v',s,h1,h2,h3,h4,h5,x,h6,h7⟩
  · exact .inl h
  · refine .inr ⟨i,v,v',s,h1,h2,h3,h4,by omega,x,?_,h7⟩
    rw [show i - i0=(i - (i0+1))+1 by omega]
    exact h6
theorem rs_findAsking (t : TypeId) (ht : P.underlying t=some .string) {k k' : Value} : ∀ {l l' : List MapEntry} {ρ : Ren} (i : Nat),RV ρ k k'→RMs ρ l l'→RS P (QF k l i) ρ (Instr.findAsking t k l i) (Instr.findAsking t k' l' i):=by
  intro l
  induction l with
  | nil=>intro l' ρ i _ h; cases h; exact rs_pure (.inl ⟨rfl,rfl⟩)
  | cons e l ih=>
    intro l' ρ i hk h
    cases h with
    | @cons b q q' v v' _ l' hq hv hl=>
      unfold Instr.findAsking
      refine rs_bind (rs_equalStr _ t ht hk hq) (fun ρ1 l1 a a' ha=>?_)
      obtain ⟨rfl,ha⟩:=ha
      cases a with
      | true=>
        obtain ⟨s,h1,h2⟩:=ha rfl
        exact rs_pure (.inr ⟨i,v,v',s,rfl,rfl,hv.mono l1,h1,Nat.le_refl _,⟨q,v,b⟩,by simp,h2⟩)
      | false=>exact (ih (i+1) (hk.mono l1) (hl.mono l1)).imp (fun _ _ _ h=>h.tail)
theorem sameNow_rel {ρ : Ren} {k k' q q' : Value} (hk : RV ρ k k') (hq : RV ρ q q') : Instr.sameNow .string k q=Instr.sameNow .string k' q':=by
  cases hk with
  | string s=>cases hq with
    | string s'=>rfl
    | dead _ h=>cases q' <;> first | rfl | simp [deadV] at h
    | _=>rfl
  | dead _ h=>cases k' <;> first | rfl | simp [deadV] at h
  | _=>rfl
theorem findNow_rel {k k' : Value} : ∀ {l l' : List MapEntry} {ρ : Ren} (i : Nat),RV ρ k k'→RMs ρ l l'→(Instr.findNow .string k l i=none∧Instr.findNow .string k' l' i=none)∨∃ a b,Instr.findNow .string k l i=some a∧Instr.findNow .string k' l' i=some b∧QF k l i ρ a b:=by
  intro l
  induction l with
  | nil=>intro l' ρ i _ h; cases h; exact .inr ⟨none,none,rfl,rfl,.inl ⟨rfl,rfl⟩⟩
  | cons e l ih=>
    intro l' ρ i hk h
    cases h with
    | @cons b q q' v v' _ l' hq hv hl=>
      have hs:=sameNow_rel hk hq
      unfold Instr.findNow
      simp only [←hs]
      cases hx : Instr.sameNow .string k q with
      | none=>exact .inl ⟨rfl,rfl⟩
      | some c=>
        cases c with
        | true=>
          refine .inr ⟨_,_,rfl,rfl,.inr ?_⟩
          have : ∃ s,k=.string s∧q=.string s:=by
            cases k <;> cases q <;> simp [Instr.sameNow] at hx
            · exact ⟨_,rfl,by rw [ba_eq hx]⟩
          obtain ⟨s,h1,h2⟩:=this
          exact ⟨i,v,v',s,rfl,rfl,hv,h1,Nat.le_refl _,⟨q,v,b⟩,by simp,h2⟩
        | false=>
          rcases ih (i+1) hk hl with h | ⟨a,b,h1,h2,h3⟩
          · exact .inl h
          · exact .inr ⟨a,b,h1,h2,h3.tail⟩
theorem rs_findKey {ρ : Ren} (t : TypeId) (ht : P.underlying t=some .string) {k k' : Value} (hk : RV ρ k k') {l l' : List MapEntry} (h : RMs ρ l l') : RS P (QF k l 0) ρ (Instr.findKey t k l) (Instr.findKey t k' l'):=by
  unfold Instr.findKey
  refine rs_bind (rs_underlying' t) (fun ρ1 l1 ty ty' hd=>?_)
  obtain ⟨rfl,hd⟩:=hd
  rw [ht] at hd
  cases hd
  rcases findNow_rel 0 (hk.mono l1) (h.mono l1) with ⟨h1,h2⟩ | ⟨a,b,h1,h2,h3⟩
  · rw [h1,h2]; exact rs_findAsking t ht 0 (hk.mono l1) (h.mono l1)
  · rw [h1,h2]; exact rs_pure h3
theorem rs_checkKey {ρ : Ren} (e e' : Bool) (n : Nat) (t : TypeId) (ht : P.underlying t=some .string) (k k' : Value) : RS P QU ρ (Instr.checkKey e (n+1) t k) (Instr.checkKey e' (n+1) t k'):=by
  unfold Instr.checkKey
  refine rs_bind (rs_underlying' t) (fun ρ1 l1 ty ty' hd=>?_)
  obtain ⟨rfl,hd⟩:=hd
  rw [ht] at hd
  cases hd
  exact rs_pure trivial
variable {ρ : Ren}
theorem rs_lookup (hZ : ZeroOk P) (t : TypeId) (ht : okMap P t=true) {x x' i i' : Value} (hx : RV ρ x x') (hi : RV ρ i i') (ok : Bool) : RS P QV ρ (Instr.lookup t x i ok) (Instr.lookup t x' i' ok):=by
  obtain ⟨k,e,h1,h2⟩:=okMap_of ht
  unfold Instr.lookup
  refine rs_bind (rs_underlying' t) (fun ρ1 l1 ty ty' hd=>?_)
  obtain ⟨rfl,hd⟩:=hd
  rw [h1] at hd
  cases hd
  have hx1:=hx.mono l1
  have hi1:=hi.mono l1
  have fin : ∀ (ρ2 : Ren),ρ1.le ρ2→∀ (es es' : Array MapEntry),RMs ρ2 es.toList es'.toList→RS P QV ρ2 (do
      Instr.checkKey es.isEmpty 10000 k i
      let (v,o) ←match ←Instr.findKey k i es.toList with
        | some (_,v)=>pure (v,true)
        | none=>pure (←zeroValue e,false)
      pure (if ok then .tuple #[v,.bool o] else v)) (do
      Instr.checkKey es'.isEmpty 10000 k i'
      let (v,o) ←match ←Instr.findKey k i' es'.toList with
        | some (_,v)=>pure (v,true)
        | none=>pure (←zeroValue e,false)
      pure (if ok then .tuple #[v,.bool o] else v)):=by
    intro ρ2 l2 es es' hes
    refine rs_bind (rs_checkKey _ _ 9999 k h2 _ _) (fun ρ3 l3 _ _ _=>?_)
    refine rs_bind (rs_findKey k h2 ((hi1.mono l2).mono l3) (hes.mono l3)) (fun ρ4 l4 a b hab=>?_)
    have last : ∀ (ρ5 : Ren) (v v' : Value) (o : Bool),RV ρ5 v v'→RS P QV ρ5 (pure (if ok then .tuple #[v,.bool o] else v) : Sem Value) (pure (if ok then .tuple #[v',.bool o] else v')):=by
      intro ρ5 v v' o hv
      cases ok with
      | false=>exact rs_pure hv
      | true=>
        have:=(RVs.nil.push hv).push (.bool o)
        exact rs_pure (.tuple this.size this.at_)
    rcases hab with ⟨rfl,rfl⟩ | ⟨j,v,v',s,rfl,rfl,hv,-⟩
    · refine rs_bind (rs_zeroValue hZ e) (fun ρ6 l6 z z' hz=>?_)
      refine rs_bind (Q:=fun ρ (x y : Value×Bool)=>RV ρ x.1 y.1∧x.2=y.2) (rs_pure ⟨hz,rfl⟩) (fun ρ5 l5 a b h=>?_)
      obtain ⟨a1,a2⟩:=a
      obtain ⟨b1,b2⟩:=b
      obtain ⟨h3,h4⟩:=h
      simp only at h3 h4
      subst h4
      exact last ρ5 a1 b1 a2 h3
    · refine rs_bind (Q:=fun ρ (x y : Value×Bool)=>RV ρ x.1 y.1∧x.2=y.2) (rs_pure ⟨hv,rfl⟩) (fun ρ5 l5 a b h=>?_)
      obtain ⟨a1,a2⟩:=a
      obtain ⟨b1,b2⟩:=b
      obtain ⟨h3,h4⟩:=h
      simp only at h3 h4
      subst h4
      exact last ρ5 a1 b1 a2 h3
  cases hx1 with
  | map hr=>
    cases hr with
    | none=>exact rs_bind (Q:=fun ρ (x y : Array MapEntry)=>RMs ρ x.toList y.toList) (rs_pure .nil) (fun ρ2 l2 a b h=>fin ρ2 l2 a b h)
    | some hr=>
      refine rs_bind (rs_getObj hr) (fun ρ2 l2 o o' ho=>?_)
      obtain ⟨ho,-,-⟩:=ho
      cases ho with
      | map c hm=>exact rs_bind (Q:=fun ρ (x y : Array MapEntry)=>RMs ρ x.toList y.toList) (rs_pure hm) (fun ρ3 l3 a b h=>fin ρ3 (Ren.le_trans l2 l3) a b h)
      | _=>exact .lost (LostS.bind (.halt rfl) _) _
  | _=>exact .lost (LostS.bind (.halt rfl) _) _
theorem RMs.push {l l' : List MapEntry} (h : RMs ρ l l') (b : Nat) {k k' v v' : Value} (hk : RV ρ k k') (hv : RV ρ v v') : RMs ρ (l++[⟨k,v,b⟩]) (l'++[⟨k',v',b⟩]):=by
  induction h with
  | nil=>exact .cons b hk hv .nil
  | cons c hq h _ ih=>exact .cons c hq h ih
theorem RMs.modify {l l' : List MapEntry} (h : RMs ρ l l') {k k' v v' : Value} (hk : RV ρ k k') (hv : RV ρ v v') : ∀ i,RMs ρ (l.modify i (fun e=>{ e with key:=k,val:=v })) (l'.modify i (fun e=>{ e with key:=k',val:=v' })):=by
  induction h with
  | nil=>intro i; cases i <;> exact .nil
  | cons c hq h hl ih=>
    intro i
    cases i with
    | zero=>exact .cons c hk hv hl
    | succ i=>exact .cons c hq h (ih i)
theorem RMs.at_ {l l' : List MapEntry} (h : RMs ρ l l') : ∀ (i : Nat) e,l[i]?=some e→∃ e',l'[i]?=some e'∧RV ρ e.key e'.key:=by
  induction h with
  | nil=>intro i e h; simp at h
  | cons c hq h hl ih=>
    intro i e he
    cases i with
    | zero=>simp at he; subst he; exact ⟨_,rfl,hq⟩
    | succ i=>exact ih i e he
theorem rs_mapUpdate (t : TypeId) (ht : okMap P t=true) {m m' k k' v v' : Value} (hm : RV ρ m m') (hk : RV ρ k k') (hv : RV ρ v v') : RS P QU ρ (Instr.mapUpdate t m k v) (Instr.mapUpdate t m' k' v'):=by
  obtain ⟨kt,e,h1,h2⟩:=okMap_of ht
  unfold Instr.mapUpdate
  refine rs_bind (rs_underlying' t) (fun ρ1 l1 ty ty' hd=>?_)
  obtain ⟨rfl,hd⟩:=hd
  rw [h1] at hd
  cases hd
  have hm1:=hm.mono l1
  cases hm1 with
  | map hr=>
    cases hr with
    | none=>exact rs_plain _
    | @some r r' hr=>
      refine rs_bind (rs_getObj hr) (fun ρ2 l2 o o' ho=>?_)
      obtain ⟨ho,k1,k2⟩:=ho
      cases ho with
      | @map es es' c hm=>
        have n1 : ¬ρ2.old r:=fun k=>by cases k1 k
        have n2 : ρ2.ch r→False:=fun k=>by have:=k2 k; simp [Obj.isChan] at this
        refine rs_bind (rs_checkKey _ _ 9999 kt h2 _ _) (fun ρ3 l3 _ _ _=>?_)
        have hk3:=((hk.mono l1).mono l2).mono l3
        refine rs_bind (rs_findKey kt h2 hk3 (hm.mono l3)) (fun ρ4 l4 a b hab=>?_)
        have hk4:=hk3.mono l4
        have hv4:=(((hv.mono l1).mono l2).mono l3).mono l4
        have hm4:=(hm.mono l3).mono l4
        have hr4 : ρ4 r r':=l4 _ _ (l3 _ _ (l2 _ _ hr))
        have n3 : ¬ρ4.old r:=by rw [l4.old,l3.old]; exact n1
        have n4 : ρ4.ch r→False:=by rw [l4.ch,l3.ch]; exact n2
        rcases hab with ⟨rfl,rfl⟩ | ⟨i,x,x',s,rfl,rfl,-,rfl,-,en,hen,hkey⟩
        · refine .setObj hr4 (.map (c+1) ?_) n3 (fun h=>(n4 h).elim) (.pure trivial)
          simp only [Array.toList_push]
          exact hm4.push c hk4 hv4
        · cases hk4
          rw [Nat.sub_zero] at hen
          obtain ⟨en',hen',hke⟩:=hm4.at_ i en hen
          rw [hkey] at hke
          have hkey' : en'.key=.string s:=by
            generalize en'.key=z at hke
            cases hke; rfl
          have e1 : ((es[i]?).map (·.key)).getD (.string s)=.string s:=by
            rw [←Array.getElem?_toList,hen]; exact hkey
          have e2 : ((es'[i]?).map (·.key)).getD (.string s)=.string s:=by
            rw [←Array.getElem?_toList,hen']; exact hkey'
          dsimp only
          rw [e1,e2]
          have e3 : Instr.keyThatStays (.string s) (.string s)=pure (.string s):=by
            unfold Instr.keyThatStays
            have : Instr.sameBits 10000 (.string s) (.string s)=true:=by simp only [Instr.sameBits]; exact ba_refl s
            rw [this]; rfl
          rw [e3]
          refine rs_bind (rs_pure (Q:=QV) (.string s)) (fun ρ5 l5 z z' hz=>?_)
          refine .setObj (l5 _ _ hr4) (.map c ?_) (by rw [l5.old]; exact n3) (by rw [l5.ch]; exact fun h=>(n4 h).elim) (.pure trivial)
          simp only [Array.toList_modify]
          exact (hm4.mono l5).modify hz (hv4.mono l5) i
      | _=>exact rs_stuck _
  | _=>exact rs_stuck _
theorem rs_makeMap (t : TypeId) : RS P QV ρ (Instr.makeMap t none) (Instr.makeMap t none):=by
  unfold Instr.makeMap
  exact .new (.map 0 .nil) (fun r r' _ _ _=>.pure (.map (.some (.inr ⟨rfl,rfl⟩))))
theorem rs_loadBytes : ∀ (n : Nat) {ρ : Ren} {a a' : Addr} (acc : ByteArray),RA ρ a a'→RS P QE ρ (loadBytes a acc n) (loadBytes a' acc n):=by
  intro n
  induction n with
  | zero=>intro ρ a a' acc _; exact rs_pure rfl
  | succ n ih=>
    intro ρ a a' acc h
    unfold loadBytes
    refine rs_bind (rs_load h _) (fun ρ1 l1 v v' hv=>?_)
    cases hv with
    | int k b=>cases k <;> first | exact rs_stuck _ | exact ih _ ((h.mono l1).add 1)
    | _=>exact rs_stuck _
theorem rs_variablesAt {a a' : Addr} (h : RA ρ a a') (u : TypeId) (n : Nat) : RS P QE ρ (variablesAt a u n) (variablesAt a' u n):=by
  unfold variablesAt
  refine rs_program' ?_ (by simp only [alt_liesAt,alt_depth,alt_cellsOf])
  refine rs_bindE (rs_shape h.1) (fun ρ1 l1 s=>?_)
  rw [←h.2.1]
  rcases s with - | ⟨e,z⟩ <;> exact rs_pure rfl
theorem rs_unsafeString (hno : ∀ a,¬ρ.old a) (at_ : Array TypeId) (t : TypeId) {a a' : Array Value} (h : RVs ρ a a') : RS P QV ρ (Builtin.unsafeString_ at_ t a) (Builtin.unsafeString_ at_ t a'):=by
  obtain ⟨l⟩:=a
  obtain ⟨l'⟩:=a'
  have hl : l.length=l'.length:=by simpa using h.size
  unfold Builtin.unsafeString_
  rcases l with - | ⟨x,- | ⟨y,- | ⟨z,l⟩⟩⟩ <;> rcases l' with - | ⟨x',- | ⟨y',- | ⟨z',l'⟩⟩⟩ <;> (try (simp at hl; done))
  · exact rs_stuck _
  · exact rs_stuck _
  · have hx:=h.at_ 0 x x' rfl rfl
    have hy:=h.at_ 1 y y' rfl rfl
    cases hx with
    | pointer hp=>
      refine rs_bindE (rs_asInt hy) (fun ρ1 l1 n=>?_)
      cases at_[0]? with
      | none=>exact rs_stuck _
      | some pt=>
        refine rs_ite (fun _=>rs_bindN (rs_error _)) (fun _=>?_)
        refine rs_ite (fun _=>rs_bindN (rs_unsupported _)) (fun _=>?_)
        have hp1:=hp.mono l1
        cases hp1 with
        | none=>exact rs_ite (fun _=>rs_pure (.string _)) (fun _=>rs_error _)
        | @some b b' hb=>
          refine rs_ite (fun _=>rs_pure (.string _)) (fun _=>?_)
          refine rs_bindE (rs_elemOf pt) (fun ρ2 l2 el=>?_)
          refine rs_bindE (rs_variablesAt (hb.mono l2) el n.toNat) (fun ρ3 l3 c=>?_)
          refine rs_ite (fun _=>?_) (fun _=>rs_unsupported _)
          refine rs_bindE (rs_loadBytes n.toNat _ ((hb.mono l2).mono l3)) (fun ρ4 l4 s=>?_)
          refine .freeze _ (((hb.mono l2).mono l3).mono l4) (by rw [l4.old,l3.old,l2.old,l1.old]; exact hno _) (.pure (.string _))
    | _=>exact rs_stuck _
  · exact rs_stuck _
theorem rs_min2 {x x' y y' : Value} (hx : RV ρ x x') (hy : RV ρ y y') : RS P QV ρ (Builtin.min2 x y) (Builtin.min2 x' y'):=by
  cases hx with
  | int k n=>
    cases hy with
    | int k' n'=>exact rs_pure (.int _ _)
    | pointer h=>cases h <;> first | exact rs_stuck _ | exact rs_unsupported _
    | _=>exact rs_stuck _
  | string s=>
    cases hy with
    | string s'=>
      unfold Builtin.min2
      refine rs_bind (rs_stringOp _ _ _) (fun ρ1 l1 v v' hv=>?_)
      exact rs_bindE (rs_asBool hv) (fun ρ2 l2 b=>rs_pure (.string _))
    | pointer h=>cases h <;> first | exact rs_stuck _ | exact rs_unsupported _
    | _=>exact rs_stuck _
  | pointer h=>
    cases h with
    | none=>
      cases hy with
      | pointer k=>cases k <;> first | exact rs_stuck _ | exact rs_unsupported _
      | _=>exact rs_stuck _
    | some h=>exact rs_unsupported _
  | _=>
    cases hy with
    | pointer k=>cases k <;> first | exact rs_stuck _ | exact rs_unsupported _
    | _=>exact rs_stuck _
theorem rs_minFold : ∀ (l l' : List Value) {ρ : Ren} {x x' : Value},RV ρ x x'→l.length=l'.length→(∀ (j : Nat) v v',l[j]?=some v→l'[j]?=some v'→RV ρ v v')→RS P QV ρ (l.foldlM Builtin.min2 x) (l'.foldlM Builtin.min2 x'):=by
  intro l
  induction l with
  | nil=>intro l' ρ x x' hx hl _; cases l' with
    | nil=>exact rs_pure hx
    | cons _ _=>simp at hl
  | cons y l ih=>
    intro l' ρ x x' hx hl hR
    cases l' with
    | nil=>simp at hl
    | cons y' l'=>
      simp only [List.foldlM_cons]
      exact rs_bind (rs_min2 hx (hR 0 y y' rfl rfl)) (fun ρ1 l1 v v' hv=>ih l' hv (by simpa using hl) (fun j a a' h1 h2=>(hR (j+1) a a' h1 h2).mono l1))
theorem rs_min (at_ : Array TypeId) (t : TypeId) {a a' : Array Value} (h : RVs ρ a a') : RS P QV ρ (Builtin.min_ at_ t a) (Builtin.min_ at_ t a'):=by
  obtain ⟨l⟩:=a
  obtain ⟨l'⟩:=a'
  have hl : l.length=l'.length:=by simpa using h.size
  unfold Builtin.min_
  cases l with
  | nil=>cases l' with
    | nil=>exact rs_stuck _
    | cons _ _=>simp at hl
  | cons x l=>cases l' with
    | nil=>simp at hl
    | cons x' l'=>exact rs_minFold l l' (h.at_ 0 x x' rfl rfl) (by simpa using hl) (fun j v v' h1 h2=>h.at_ (j+1) v v' (by simpa using h1) (by simpa using h2))
theorem rs_panic {x x' : Value} (hx : RV ρ x x') : RS P QV ρ (Instr.panic x) (Instr.panic x'):=by
  unfold Instr.panic
  cases hx with
  | iface t h=>exact rs_goPanic (.iface t h)
  | nilIface=>
    unfold Instr.panicnil
    refine rs_bindE (rs_bindE (.env (fun r=>.pure rfl)) (fun ρ1 l1 r=>?_)) (fun ρ1 l1 n=>?_)
    · cases r with
      | strings env=>exact rs_program' (rs_pure rfl)
      | _=>exact rs_stuck _
    · refine rs_ite (fun _=>rs_goPanic .nilIface) (fun _=>?_)
      unfold runtimePanic
      refine rs_program' ?_
      refine rs_bindE (rs_elemOf _) (fun ρ2 l2 t=>?_)
      refine rs_bind (rs_newVar t (.agg rfl (fun i v v' h=>by simp at h))) (fun ρ3 l3 r r' hr=>?_)
      exact rs_goPanic (.iface _ (.pointer (.some hr)))
  | _=>exact rs_stuck _
end
section
variable {P : Program} [Two P] {ρ : Ren}
theorem rs_val {s s' : Sem Value} (h : RS P QV ρ s s') : RS P RX ρ (do let x ←s; pure (.value x)) (do let x ←s'; pure (.value x)):=rs_bind h (fun _ρ1 _ _v _v' hv=>rs_pure (.value hv))
theorem rs_unit {s s' : Sem Unit} (h : RS P QU ρ s s') : RS P RX ρ (do s; pure .skip) (do s'; pure .skip):=rs_bind h (fun _ρ1 _ _ _ _=>rs_pure .skip)
theorem rs_closeAll (hS : ρ.F bigS=true) (at_ : Array TypeId) (t : TypeId) {a a' : Array Value} (h : RVs ρ a a') : RS P QV ρ (Builtin.close_ at_ t a) (Builtin.close_ at_ t a'):=by
  obtain ⟨l⟩:=a
  obtain ⟨l'⟩:=a'
  have hl : l.length=l'.length:=by simpa using h.size
  rcases l with - | ⟨x,- | ⟨y,l⟩⟩ <;> rcases l' with - | ⟨x',- | ⟨y',l'⟩⟩ <;> (try (simp at hl; done))
  · exact rs_stuck _
  · have hx:=h.at_ 0 x x' rfl rfl
    cases hx with
    | chan hp=>exact rs_close hS at_ t hp
    | _=>exact rs_stuck _
  · exact rs_stuck _
theorem rs_builtin (hZ : ZeroOk P) (hI : GId P ρ) (b : Builtin) (hb : okB2 ρ.F b=true) (at_ : Array TypeId) (hB : okBT P b at_=true) (t : TypeId) (cs : Array Bool) {a a' : Array Value} (h : RVs ρ a a') : RS P RX ρ (builtin b at_ t cs a) (builtin b at_ t cs a'):=by
  cases b <;> first
    | (exfalso; simp [okB2,okB] at hb; done)
    | exact rs_val (rs_append hZ at_ t h)
    | exact rs_val (rs_cap at_ hB t h)
    | exact rs_val (rs_clear hZ at_ t h)
    | exact rs_val (rs_closeAll (by simpa [okB2,okB] using hb) at_ t h)
    | exact rs_val (rs_copy at_ t h)
    | exact rs_val (rs_len at_ hB t h)
    | exact rs_val (rs_min at_ t h)
    | exact rs_val (rs_unsafeString (hI.free (by simpa [okB2,okB] using hb)) at_ t h)
def NoCount (P : Program) : Prop := ∀ (f : FuncId) fn, P.funcs[f]? = some fn → fn.name ≠ "runtime.NumGoroutine"
theorem rs_invoke (hZ : ZeroOk P) (hE : ExtOk P ρ.F) (hN : NoCount P) (hI : GId P ρ) {t t' : Target} (ht : RT ρ t t') {a a' : Array Value} (h : RVs ρ a a') : RS P RX ρ (invoke t a) (invoke t' a'):=by
  unfold invoke
  cases ht with
  | nil=>exact rs_nilDeref
  | builtin b hb at_ ha t cs=>exact rs_builtin hZ hI b hb at_ (by rw [←hI.prog]; exact ha) t cs h
  | fn hf hc=>
    cases hf with
    | func f hF=>exact rs_callFunc hE hI f hF (hN f) (h.append hc)
    | yield hl=>exact rs_yield hl h
  | collected _=>exact rs_stuck _
theorem rs_stringToRunes (e : TypeId) (s : ByteArray) : RS P QV ρ (Conv.stringToRunes e s) (Conv.stringToRunes e s):=by
  have runes : ∀ (b i : Nat) (acc : Array Value),RVs ρ acc acc→∀ ρ',ρ.le ρ'→RVs ρ' (Conv.runesFrom s b i acc) (Conv.runesFrom s b i acc):=by
    intro b
    induction b with
    | zero=>intro i acc h ρ' l; exact h.mono l
    | succ b ih=>
      intro i acc h ρ' l
      unfold Conv.runesFrom
      split
      · exact ih _ _ (h.push (.int _ _)) ρ' l
      · exact h.mono l
  unfold Conv.stringToRunes
  refine rs_bindE (rs_choose _) (fun ρ1 l1 cap=>?_)
  refine rs_bind (rs_newRow e (RVs.append (runes _ _ _ RVs.nil ρ1 l1) (RVs.self (fun i v h=>?_)))) (fun ρ2 l2 a a' ha=>rs_pure (.slice _ _ (.some ha)))
  rw [Array.getElem?_replicate] at h
  split at h
  · cases h; exact .int _ _
  · cases h
theorem lost_underlying {α : Type} (t : TypeId) {f : TypeDesc→Sem α} (h : ∀ d,LostS (f d)) : LostS (underlying t >>= f):=by
  unfold underlying
  refine .program (fun p=>?_)
  show LostS (Sem.bind (match p.underlying t with | some i => Pure.pure i | none => stuck "no such type") _)
  cases p.underlying t with
  | none=>exact .halt rfl
  | some d=>exact h d
theorem rs_convert (src dst : TypeId) (ho : okConv P src dst=true) {x x' : Value} (hx : RV ρ x x') : RS P QV ρ (convert src dst x) (convert src dst x'):=by
  unfold convert
  refine rs_bind (rs_underlying' src) (fun ρ1 l1 ds ds' hs=>?_)
  obtain ⟨rfl,hs⟩:=hs
  refine rs_bind (rs_underlying' dst) (fun ρ2 l2 dd dd' hd=>?_)
  obtain ⟨rfl,hd⟩:=hd
  unfold okConv at ho
  rw [hs,hd] at ho
  have hx2:=(hx.mono l1).mono l2
  have hx0:=hx2
  cases ds <;> cases dd <;> (try (exfalso; revert ho; simp; done))
  · cases hx2 with
    | int k n=>exact rs_pure (.int _ _)
    | pointer h=>cases h <;> exact rs_unsupported _
    | _=>exact rs_unsupported _
  · cases hx2 with
    | int k n=>exact rs_pure (.string _)
    | string s=>exact rs_pure (.string _)
    | _=>exact rs_unsupported _
  · cases hx2 with
    | string s=>
      refine rs_bindE (rs_underlying _) (fun ρ3 l3 d=>?_)
      cases d with
      | int k=>cases k <;> first | exact rs_stuck _ | exact rs_stringToBytes _ _ | exact rs_stringToRunes _ _
      | _=>exact rs_stuck _
    | slice n c h=>cases h <;> exact rs_unsupported _
    | _=>exact rs_unsupported _
  · cases hx2 with
    | int k n=>exact rs_pure (.string _)
    | string s=>exact rs_pure (.string _)
    | dead _ _=>
      refine .lost (lost_underlying _ (fun d=>?_)) _
      cases d with
      | int k=>cases k <;> exact .halt rfl
      | _=>exact .halt rfl
    | _=>
      refine rs_bindE (rs_underlying _) (fun ρ3 l3 d=>?_)
      cases d with
      | int k=>cases k <;> first | exact rs_stuck _ | exact rs_bytesToString (P:=P) (hx0.mono l3) | exact rs_runesToString (P:=P) (hx0.mono l3)
      | _=>exact rs_stuck _
end
section
variable {P : Program} {ρ : Ren}
theorem rv_oneV {v : Value} (h : oneV v=true) : RV ρ v v:=by
  cases v with
  | pointer a=>cases a with | none=>exact .pointer .none | some a=>simp [oneV] at h
  | slice a n c=>cases a with | none=>exact .slice _ _ .none | some a=>simp [oneV] at h
  | map a=>cases a with | none=>exact .map .none | some a=>simp [oneV] at h
  | chan a=>cases a with | none=>exact .chan .none | some a=>simp [oneV] at h
  | bool b=>exact .bool b
  | int k n=>exact .int k n
  | string s=>exact .string s
  | nilFunc=>exact .nilFunc
  | nilIface=>exact .nilIface
  | _=>simp [oneV] at h
theorem rvs_all {c : Array Value} (h : c.all oneV=true) : RVs ρ c c:=RVs.self (fun i v hv=>rv_oneV (by
  have:=Array.all_eq_true.1 h
  obtain ⟨hi,rfl⟩:=Array.getElem?_eq_some_iff.1 hv
  exact this i hi))
theorem rv_plainV {v : Value} (h : plainV v=true) : RV ρ v v:=by
  cases v with
  | agg c=>exact .agg rfl (rvs_all h).at_
  | tuple c=>exact .tuple rfl (rvs_all h).at_
  | iface t v=>exact .iface t (rv_oneV h)
  | _=>exact rv_oneV h
def REnv (P : Program) (ρ : Ren) (e e' : Operand→Value) : Prop:=∀ x,okX P ρ.F x=true→RV ρ (e x) (e' x)
theorem REnv.all {e e' : Operand→Value} (h : REnv P ρ e e') {a : Array Operand} (ha : a.all (okX P ρ.F)=true) : RVs ρ (a.map e) (a.map e'):=by
  refine ⟨by simp,fun i v v' h1 h2=>?_⟩
  rw [Array.getElem?_map] at h1 h2
  cases hx : a[i]? with
  | none=>rw [hx] at h1; cases h1
  | some x=>
    rw [hx] at h1 h2
    cases h1; cases h2
    obtain ⟨hi,rfl⟩:=Array.getElem?_eq_some_iff.1 hx
    exact h _ (Array.all_eq_true.1 ha i hi)
theorem REnv.parts {e e' : Operand→Value} (h : REnv P ρ e e') : ∀ (l : List (Nat×Operand)),(∀ p∈l,okX P ρ.F p.2=true)→RPs ρ (l.map (fun p=>(p.1,e p.2))) (l.map (fun p=>(p.1,e' p.2))):=by
  intro l
  induction l with
  | nil=>intro _; exact .nil
  | cons p l ih=>intro hp; exact .cons p.1 (h _ (hp p (List.mem_cons_self ..))) (ih (fun q hq=>hp q (List.mem_cons_of_mem _ hq)))
theorem REnv.partsA {e e' : Operand→Value} (h : REnv P ρ e e') {a : Array (Nat×Operand)} (ha : a.all (fun p=>okX P ρ.F p.2)=true) : RPs ρ (a.map (fun (i,x)=>(i,e x))).toList (a.map (fun (i,x)=>(i,e' x))).toList:=by
  simp only [Array.toList_map]
  refine h.parts a.toList (fun p hp=>?_)
  have:=Array.all_eq_true.1 ha
  obtain ⟨i,hi,rfl⟩:=List.mem_iff_getElem.1 hp
  simpa using this i (by simpa using hi)
theorem opt_all {e e' : Operand→Value} (h : REnv P ρ e e') {o : Option Operand} (ho : o.all (okX P ρ.F)=true) : (∀ v v',o.map e=some v→o.map e'=some v'→RV ρ v v')∧(o.map e).isSome=(o.map e').isSome:=by
  cases o with
  | none=>exact ⟨fun v v' h=>by simp at h,rfl⟩
  | some x=>exact ⟨fun v v' h1 h2=>by simp at h1 h2; subst h1; subst h2; exact h x ho,rfl⟩
variable [Two P]
theorem rs_resolve (hI : GId P ρ) {e e' : Operand→Value} (he : REnv P ρ e e') (c : Call) (hc : okCall P ρ.F c=true) (t : TypeId) : RS P (fun ρ d d'=>RD ρ d d') ρ (resolve e c t) (resolve e' c t):=by
  unfold resolve
  unfold okCall at hc
  rw [Bool.and_eq_true] at hc
  have ha:=he.all hc.2
  cases hk : c.callee with
  | builtin b=>
    rw [hk] at hc
    have hb:=hc.1
    rw [Bool.and_eq_true] at hb
    exact rs_pure ⟨.builtin _ hb.1 _ (by rw [hI.prog]; exact hb.2) _ _,ha⟩
  | value f=>
    rw [hk] at hc
    have hf:=he f hc.1
    show RS P _ ρ (Deferred.ofValue _ _) (Deferred.ofValue _ _)
    unfold Deferred.ofValue
    generalize e f=v at hf
    generalize e' f=v' at hf
    cases hf with
    | func hf h1 h2 k1 k2=>exact rs_pure ⟨.fn hf ⟨h2,k2⟩,RVs.append ⟨h1,k1⟩ ha⟩
    | nilFunc=>exact rs_pure ⟨.nil,ha⟩
    | _=>exact rs_stuck _
  | invoke r n=>rw [hk] at hc; simp at hc
theorem rs_execOp (hZ : ZeroOk P) (hE : ExtOk P ρ.F) (hN : NoCount P) (hI : GId P ρ) {e e' : Operand→Value} (he : REnv P ρ e e') (hf1 : ∀ f,e (.func f)=.func (.func f) #[] #[]) (hf2 : ∀ f,e' (.func f)=.func (.func f) #[] #[]) (hK : ∀ x,nilX x=true→nilV (e x)=true) (o : Oper) (ho : okOp P ρ.F o.op=true) (hnc : isComm o.op=false) : RS P RX1 ρ (execOp e o) (execOp e' o):=by
  have lift : ∀ {x x' : Sem Next},RS P RX ρ x x'→RS P RX1 ρ x x':=fun h=>h.imp (fun _ _ _ k=>.of k)
  unfold execOp
  cases hop : o.op with
  | move x=>rw [hop] at ho; exact rs_pure (.of <| .value (he x ho))
  | assign x=>rw [hop] at ho; exact rs_pure (.of <| .value (he x ho))
  | pick c a b=>
    rw [hop] at ho
    simp only [okOp,Bool.and_eq_true] at ho
    refine rs_bindE (rs_asBool (he c ho.1.1)) (fun ρ1 l1 x=>rs_pure (.of <| .value ?_))
    cases x
    · exact (he b ho.2).mono l1
    · exact (he a ho.1.2).mono l1
  | alloc t=>exact lift <| rs_val (rs_alloc hZ t)
  | box t x=>rw [hop] at ho; exact lift <| rs_val (rs_box t (he x ho))
  | build t ps=>rw [hop] at ho; exact lift <| rs_val (rs_build hZ t (he.partsA ho))
  | buildSlice t n ps=>rw [hop] at ho; exact lift <| rs_val (rs_buildSlice hZ t n (he.partsA ho))
  | load t a=>rw [hop] at ho; exact lift <| rs_val (rs_loadAt t (he a ho))
  | store t a x=>rw [hop] at ho; simp only [okOp,Bool.and_eq_true] at ho; exact lift <| rs_unit (rs_storeAt t (he a ho.1) (he x ho.2))
  | nilCheck x=>
    rw [hop] at ho
    have hx:=he x ho
    have hx0:=hx
    simp only
    generalize e x=v at hx hx0
    generalize e' x=v' at hx hx0
    cases hx with
    | pointer h=>cases h with | none=>exact rs_nilDeref | some h=>exact rs_pure (.of <| .value hx0)
    | nilIface=>exact rs_nilDeref
    | nilFunc=>exact rs_nilDeref
    | func hf h1 h2 k1 k2=>cases hf <;> exact rs_pure (.of <| .value hx0)
    | dead _ h=>
      cases v' with
      | pointer a=>cases a <;> first | exact rs_pure (.of <| .value hx0) | (simp [deadV] at h; done)
      | func f a c=>cases f <;> first | exact rs_pure (.of <| .value hx0) | (simp [deadV] at h; done)
      | slice a n c=>exact rs_pure (.of <| .value hx0)
      | map a=>exact rs_pure (.of <| .value hx0)
      | chan a=>exact rs_pure (.of <| .value hx0)
      | iface t v=>exact rs_pure (.of <| .value hx0)
      | float k b=>exact rs_pure (.of <| .value hx0)
      | complex k a b=>exact rs_pure (.of <| .value hx0)
      | _=>simp [deadV] at h
    | _=>exact rs_pure (.of <| .value hx0)
  | binOp op t x y u=>
    rw [hop] at ho
    simp only [okOp,Bool.and_eq_true] at ho
    have hx:=he x ho.1.1
    have hy:=he y ho.1.2
    refine lift <| rs_val (rs_bind (rs_eqGuard op t x y hx hy) (fun ρ1 l1 _ _ _=>?_))
    refine rs_binOp (hI.mono l1) op t (hx.mono l1) (hy.mono l1) (fun hop2=>?_)
    have hE2:=ho.2
    have hE3 : plainT (P.underlying t)=true∨nilX x=true∨nilX y=true∨dataT P 6 t=true:=by
      rcases hop2 with rfl | rfl <;> simpa [okEq,Bool.or_eq_true,or_assoc] using hE2
    rcases hE3 with h | h | h | h
    · exact rs_equalIn _ (hI.mono l1) t (hx.mono l1) (hy.mono l1) (.inl h)
    · refine rs_equalIn _ (hI.mono l1) t (hx.mono l1) (hy.mono l1) (.inr (.inl ?_))
      exact hK x h
    · refine rs_equalIn _ (hI.mono l1) t (hx.mono l1) (hy.mono l1) (.inr (.inr ?_))
      exact hK y h
    · exact rs_equalD _ 6 (hI.mono l1) t (hx.mono l1) (hy.mono l1) h
  | unOp op t x=>rw [hop] at ho; exact lift <| rs_val (rs_unary op (he x ho))
  | convert s d x=>rw [hop] at ho; simp only [okOp,Bool.and_eq_true] at ho; exact lift <| rs_val (rs_convert s d ho.1 (he x ho.2))
  | makeInterface t x=>rw [hop] at ho; exact lift <| rs_val (rs_makeInterface t (he x ho))
  | makeFunc f a c=>
    rw [hop] at ho
    cases f with
    | func f=>simp only [okOp,Bool.and_eq_true] at ho; exact lift <| rs_val (rs_makeFunc (.func f ho.1.1) (he.all ho.1.2) (he.all ho.2))
    | _=>simp [okOp] at ho
  | makeChan t x=>rw [hop] at ho; simp only [okOp,Bool.and_eq_true] at ho; exact lift <| rs_val (rs_makeChan ho.1 t (he x ho.2))
  | makeSlice t a x=>rw [hop] at ho; simp only [okOp,Bool.and_eq_true] at ho; exact lift <| rs_val (rs_makeSlice hZ t (he a ho.1) (he x ho.2))
  | slice t x lo hi mx=>
    rw [hop] at ho
    simp only [okOp,Bool.and_eq_true] at ho
    have h1:=opt_all he ho.1.1.2
    have h2:=opt_all he ho.1.2
    have h3:=opt_all he ho.2
    exact lift <| rs_val (rs_sliceAt t (he x ho.1.1.1) h1.1 h2.1 h3.1 h1.2 h2.2 h3.2)
  | fieldAddr s x f=>rw [hop] at ho; exact lift <| rs_val (rs_fieldAt s (he x ho) f)
  | field t x f=>rw [hop] at ho; exact lift <| rs_val (rs_field t (he x ho) f)
  | indexAddr t x i=>rw [hop] at ho; simp only [okOp,Bool.and_eq_true] at ho; exact lift <| rs_val (rs_indexAt t (he x ho.1) (he i ho.2))
  | index t x i=>rw [hop] at ho; simp only [okOp,Bool.and_eq_true] at ho; exact lift <| rs_val (rs_index t (he x ho.1) (he i ho.2))
  | extract x i=>rw [hop] at ho; exact lift <| rs_val (rs_extract (he x ho) i)
  | call c=>
    rw [hop] at ho
    rcases okCall1_of ho with hc | ⟨f,hk,h1,h2,h3⟩
    rotate_left
    · have r1 : ∀ (q : Operand→Value),q (.func f)=.func (.func f) #[] #[]→(do let d ←resolve q c o.type; invoke d.target d.args : Sem Next)=callFunc f (c.args.map q):=fun q hq=>by
        unfold resolve
        simp only [hk,hq]
        show invoke (.fn (.func f) #[]) (#[]++c.args.map q)=_
        unfold invoke
        simp
      show RS P RX1 ρ (do let d ←resolve e c o.type; invoke d.target d.args) (do let d ←resolve e' c o.type; invoke d.target d.args)
      rw [r1 e (hf1 f),r1 e' (hf2 f)]
      exact rs_callMk hI f h1 (hN f) (he.all h2) (by rw [Array.size_map]; exact h3)
    refine lift ?_
    exact rs_bind (rs_resolve hI he c hc o.type) (fun ρ1 l1 d d' hd=>rs_invoke hZ (by rw [l1.F]; exact hE) hN (hI.mono l1) hd.target hd.args)
  | go c=>
    rw [hop] at ho
    simp only [okOp,Bool.and_eq_true] at ho
    refine lift ?_
    exact rs_bind (rs_resolve hI he c ho.2 o.type) (fun ρ1 l1 d d' hd=>rs_pure (.spawn (by rw [l1.F]; exact ho.1) hd))
  | defer c=>
    rw [hop] at ho
    simp only [okOp] at ho
    rw [Bool.and_eq_true] at ho
    refine lift ?_
    exact rs_bind (rs_resolve hI he c ho.2 o.type) (fun ρ1 l1 d d' hd=>rs_pure (.defer (by rw [l1.F]; exact ho.1) hd))
  | send c x=>rw [hop] at hnc; cases hnc
  | recv t c ok=>rw [hop] at hnc; cases hnc
  | lookup t x i ok=>rw [hop] at ho; simp only [okOp,Bool.and_eq_true] at ho; exact lift <| rs_val (rs_lookup hZ t ho.1.1 (he x ho.1.2) (he i ho.2) ok)
  | mapUpdate t m k x=>rw [hop] at ho; simp only [okOp,Bool.and_eq_true] at ho; exact lift <| rs_unit (rs_mapUpdate t ho.1.1.1 (he m ho.1.1.2) (he k ho.1.2) (he x ho.2))
  | makeMap t r=>
    rw [hop] at ho
    cases r with
    | none=>exact lift <| rs_val (rs_makeMap t)
    | some _=>simp [okOp] at ho
  | panic x=>rw [hop] at ho; exact lift <| rs_val (rs_panic (he x ho))
  | _=>rw [hop] at ho; simp [okOp] at ho
end
inductive RI (P : Program) (ρ : Ren) : Item→Item→Prop
  | code {c : Code} (h : okCode P ρ.F c=true) : RI P ρ (.code c) (.code c)
  | inBlock (id : Nat) : RI P ρ (.inBlock id) (.inBlock id)
  | inLoop {c : Code} (h : okCode P ρ.F c=true) : RI P ρ (.inLoop c) (.inLoop c)
  | inScope {c : Code} (h : okCode P ρ.F c=true) : RI P ρ (.inScope c) (.inScope c)
  | inRegion {ops : Array Oper} (l : List Nat) (h : ops.all (fun o=>okOp P ρ.F o.op)=true) : RI P ρ (.inRegion ops l) (.inRegion ops l)
  | regionEnd (ops ops' : Array Oper) : RI P ρ (.inRegion ops []) (.inRegion ops' [])
  | inRangeFunc {l l' : Nat} (h : ρ l l') : RI P ρ (.inRangeFunc l) (.inRangeFunc l')
  | endRangeFunc {l l' : Nat} (h : ρ l l') : RI P ρ (.endRangeFunc l) (.endRangeFunc l')
  | beginRound : RI P ρ .beginRound .beginRound
inductive RIs (P : Program) (ρ : Ren) : List Item→List Item→Prop
  | nil : RIs P ρ [] []
  | cons {i i' : Item} {l l' : List Item} (h : RI P ρ i i') (hl : RIs P ρ l l') : RIs P ρ (i :: l) (i' :: l')
inductive RPn (ρ : Ren) : List PanicEntry→List PanicEntry→Prop
  | nil : RPn ρ [] []
  | cons {v v' : Value} (r g : Bool) {l l' : List PanicEntry} (h : RV ρ v v') (hl : RPn ρ l l') : RPn ρ ({ v,recovered:=r,goexit:=g } :: l) ({ v:=v',recovered:=r,goexit:=g } :: l')
inductive RM (ρ : Ren) : FrameMode→FrameMode→Prop
  | run : RM ρ .run .run
  | returning : RM ρ .returning .returning
  | panicking {l l' : List PanicEntry} (h : RPn ρ l l') : RM ρ (.panicking l) (.panicking l')
structure RFr (P : Program) (ρ : Ren) (fr fr' : Frame) : Prop where
  fn : fr.fn=fr'.fn
  tmps : RVs ρ fr.tmps fr'.tmps
  todo : RIs P ρ fr.todo fr'.todo
  defers : RDs ρ fr.defers fr'.defers
  mode : RM ρ fr.mode fr'.mode
  early : (fr.kind == .early)=false∧(fr'.kind == .early)=false∧fr'.kind≠.report
  round : RNo ρ fr.roundOf fr'.roundOf
def Kd (X : List Frame×List Frame) (fr fr' : Frame) (cs' : List Frame) : Prop:=(cs'≠X.2∨2≤X.1.length→fr.kind=fr'.kind)∧(cs'=X.2→fr.roundOf=none)
inductive RFs (P : Program) (ρ : Ren) (X : List Frame×List Frame) : List Frame→List Frame→Prop
  | base : RFs P ρ X X.1 X.2
  | cons {f f' : Frame} {l l' : List Frame} (h : RFr P ρ f f') (hk : Kd X f f' l') (hl : RFs P ρ X l l') : RFs P ρ X (f :: l) (f' :: l')
theorem rv_undef {ρ : Ren} : RV ρ undef undef:=.tuple rfl (fun i v v' e=>by simp at e)
section
variable {P : Program} {ρ ρ' : Ren}
theorem RI.mono (hle : ρ.le ρ') {i i' : Item} (h : RI P ρ i i') : RI P ρ' i i':=by
  cases h with
  | code h=>exact .code (by rw [hle.F]; exact h)
  | inBlock id=>exact .inBlock id
  | inLoop h=>exact .inLoop (by rw [hle.F]; exact h)
  | inScope h=>exact .inScope (by rw [hle.F]; exact h)
  | inRegion l h=>exact .inRegion l (by rw [hle.F]; exact h)
  | regionEnd a b=>exact .regionEnd a b
  | inRangeFunc h=>exact .inRangeFunc (hle _ _ h)
  | endRangeFunc h=>exact .endRangeFunc (hle _ _ h)
  | beginRound=>exact .beginRound
theorem RIs.mono (hle : ρ.le ρ') {l l' : List Item} (h : RIs P ρ l l') : RIs P ρ' l l':=by
  induction h with
  | nil=>exact .nil
  | cons h _ ih=>exact .cons (h.mono hle) ih
theorem RPn.mono (hle : ρ.le ρ') {l l' : List PanicEntry} (h : RPn ρ l l') : RPn ρ' l l':=by
  induction h with
  | nil=>exact .nil
  | cons r g h _ ih=>exact .cons r g (h.mono hle) ih
theorem RM.mono (hle : ρ.le ρ') {m m' : FrameMode} (h : RM ρ m m') : RM ρ' m m':=by
  cases h with
  | run=>exact .run
  | returning=>exact .returning
  | panicking h=>exact .panicking (h.mono hle)
theorem RFr.mono (hle : ρ.le ρ') {f f' : Frame} (h : RFr P ρ f f') : RFr P ρ' f f':=⟨h.fn,h.tmps.mono hle,h.todo.mono hle,h.defers.mono hle,h.mode.mono hle,h.early,h.round.mono hle⟩
theorem RFs.mono {X : List Frame×List Frame} (hle : ρ.le ρ') {l l' : List Frame} (h : RFs P ρ X l l') : RFs P ρ' X l l':=by
  induction h with
  | base=>exact .base
  | cons h hk _ ih=>exact .cons (h.mono hle) hk ih
theorem RVs.getD {c c' : Array Value} (h : RVs ρ c c') (i : Nat) : RV ρ (c.getD i undef) (c'.getD i undef):=by
  rcases h.get i with ⟨h1,h2⟩ | ⟨v,v',h1,h2,hv⟩
  · simp only [Array.getD_eq_getD_getElem?,h1,h2,Option.getD_none]
    exact rv_undef
  · simp only [Array.getD_eq_getD_getElem?,h1,h2,Option.getD_some]
    exact hv
theorem RFr.finish {f f' : Frame} (h : RFr P ρ f f') {v v' : Value} (hv : RV ρ v v') : RFr P ρ (f.finish v) (f'.finish v'):=by
  unfold Frame.finish
  have ht:=h.todo
  generalize hx : f.todo=td at ht
  generalize hx' : f'.todo=td' at ht
  cases ht with
  | nil=>exact h
  | cons hi hk=>
    cases hi with
    | inRegion l ho=>
      cases l with
      | nil=>exact h
      | cons j l=>
        refine ⟨h.fn,?_,.cons (.inRegion l ho) hk,h.defers,h.mode,h.early,h.round⟩
        dsimp only
        split
        · exact h.tmps.set _ hv
        · exact h.tmps
    | inRangeFunc hl=>exact ⟨h.fn,h.tmps,.cons (.endRangeFunc hl) hk,h.defers,h.mode,h.early,h.round⟩
    | beginRound=>exact ⟨h.fn,h.tmps,hk,h.defers,h.mode,h.early,h.round⟩
    | _=>exact h
variable [Two P]
theorem RFr.env (hg : GId P ρ) {f f' : Frame} (h : RFr P ρ f f') : REnv P ρ f.eval f'.eval:=by
  intro x hx
  cases x with
  | tmp t=>exact h.tmps.getD t
  | const v=>exact rv_plainV hx
  | global g=>exact .pointer (.some ⟨hg.glob g (of_decide_eq_true hx),rfl,rfl⟩)
  | func f=>exact .func (.func f hx) rfl rfl (fun i v v' e=>by simp at e) (fun i v v' e=>by simp at e)
theorem RFr.enter (hI : GId P ρ) (f : FuncId) (hF : ρ.F f=true) (k : CallKind) (hk : (k == .early)=false) (hk2 : k≠.report) {a a' : Array Value} (h : RVs ρ a a') : RFr P ρ (Frame.enter P f a k) (Frame.enter P f a' k):=by
  refine ⟨rfl,?_,.cons (.code ?_) .nil,.nil,.run,⟨hk,hk,hk2⟩,.none⟩
  · show RVs ρ (a++Array.replicate _ undef) (a'++Array.replicate _ undef)
    rw [h.size]
    refine h.append (RVs.self (fun i v e=>?_))
    rw [Array.getElem?_replicate] at e
    split at e
    · cases e; exact rv_undef
    · cases e
  · cases hf : P.funcs[f]? with
    | none=>rfl
    | some fn=>
      cases hb : fn.body with
      | none=>simp [hb,okCode]
      | some b=>simpa [hb] using hI.code f fn b hF hf hb
theorem enter_alt (hI : GId P ρ) (f : FuncId) (hF : ρ.F f=true) (k : CallKind) (a : Array Value) : Frame.enter P.alt f a k=Frame.enter P f a k:=by
  unfold Frame.enter
  rw [hI.alt f hF]
end
theorem RFs.len {P : Program} {ρ : Ren} {X : List Frame×List Frame} {l l' : List Frame} (h : RFs P ρ X l l') : X.2.length≤l'.length:=by
  induction h with
  | base=>exact Nat.le_refl _
  | cons _ _ _ ih=>simp only [List.length_cons]; omega
theorem RFs.ne {P : Program} {ρ : Ren} {X : List Frame×List Frame} {l l' : List Frame} {f' : Frame} (h : RFs P ρ X l l') : f' :: l'≠X.2:=fun e=>by
  have:=h.len
  rw [←e] at this
  simp at this
  omega
theorem nil_const (fr : Frame) : ∀ x,nilX x=true→nilV (fr.eval x)=true:=fun x h=>by
  cases x with
  | const v=>exact h
  | _=>simp [nilX] at h
inductive Shp where
  | go (g : Goroutine)
  | comm (g : Goroutine) (cs : Array CommCase) (b : Bool) (s : CommShape)
  | spawn (g k : Goroutine)
def Shp.mk : Shp→World→Array Event→GStep
  | .go g,w,es=>.go g w es
  | .comm g cs b s,w,es=>.comm g cs b s w es
  | .spawn g k,w,es=>.spawn g k w es
def Shp.ok : Shp→Prop
  | .go g=>g.dying=none
  | _=>True
theorem Shp.mk_inj {x y : Shp} {w w' : World} {es es' : Array Event} (h : x.mk w es=y.mk w' es') : x=y∧w=w'∧es=es':=by
  cases x <;> cases y <;> simp [Shp.mk] at h <;> obtain ⟨h1,h2⟩:=h <;> simp_all
theorem Shp.mk_after (x : Shp) (w : World) (E es : Array Event) : GStep.after E (x.mk w es)=x.mk w (E++es):=by cases x <;> rfl
def GMir (w : World) (f : World→GStep) : Prop:=
  ∀ x w' es,Shp.ok x→f w=x.mk w' es→w'.tape=w.tape∧w.drawn≤w'.drawn∧∀ τ d,Like w w' τ d→f (w.on τ d)=x.mk (w'.on τ (d+(w'.drawn - w.drawn))) es
theorem gmir_mk (w : World) (x : Shp) (es : Array Event) : GMir w (fun u=>x.mk u es):=by
  intro y w' es' _ h
  obtain ⟨rfl,rfl,rfl⟩:=Shp.mk_inj h
  exact ⟨rfl,Nat.le_refl _,fun τ d _=>by simp⟩
theorem gmir_go (w : World) (g : Goroutine) (es : Array Event) : GMir w (fun u=>.go g u es):=gmir_mk w (.go g) es
def noShp (x : GStep) : Prop:=∀ y w' es,Shp.ok y→x≠Shp.mk y w' es
theorem gmir_no (w : World) (f : World→GStep) (h : noShp (f w)) : GMir w f:=fun x w' es ho e=>absurd e (h x w' es ho)
theorem after_shp {E : Array Event} {s : GStep} {x : Shp} {w' : World} {es : Array Event} (h : GStep.after E s=x.mk w' es) : ∃ es',s=x.mk w' es'∧es=E++es':=by
  cases s <;> cases x <;> simp [GStep.after,Shp.mk] at h ⊢
  all_goals
    first
    | (obtain ⟨rfl,rfl,rfl⟩:=h; exact ⟨_,⟨rfl,rfl,rfl⟩,rfl⟩)
    | (obtain ⟨rfl,rfl,rfl,rfl⟩:=h; exact ⟨_,⟨rfl,rfl,rfl,rfl⟩,rfl⟩)
    | (obtain ⟨rfl,rfl,rfl,rfl,rfl,rfl⟩:=h; exact ⟨_,⟨rfl,rfl,rfl,rfl,rfl,rfl⟩,rfl⟩)
theorem gmir_after {w : World} {f : World→GStep} (E : Array Event) (h : GMir w f) : GMir w (fun u=>GStep.after E (f u)):=by
  intro x w' es hd e
  obtain ⟨es',h1,rfl⟩:=after_shp e
  obtain ⟨k1,k2,k3⟩:=h _ _ _ hd h1
  exact ⟨k1,k2,fun τ d hl=>by simp only [k3 τ d hl,Shp.mk_after]⟩
theorem like_left {w u w' : World} {τ : Nat→Question→Nat} {d : Nat} (hl : Like w w' τ d) (h : u.drawn≤w'.drawn) : Like w u τ d:=fun i hi=>hl i (by omega)
theorem like_right {w u w' : World} {τ : Nat→Question→Nat} {d : Nat} (hl : Like w w' τ d) (ht : u.tape=w.tape) (h : w.drawn≤u.drawn) : Like u w' τ (d+(u.drawn - w.drawn)):=fun i hi=>by
  have:=hl (u.drawn - w.drawn+i) (by omega)
  rw [show d+(u.drawn - w.drawn)+i=d+(u.drawn - w.drawn+i) by omega,this,ht,show w.drawn+(u.drawn - w.drawn+i)=u.drawn+i by omega]
end Go.Proofs.YtnapepbdohidgaaGreatDoorQ
