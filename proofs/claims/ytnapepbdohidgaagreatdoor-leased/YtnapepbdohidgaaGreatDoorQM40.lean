/- Part of a proof. -/
import Derived.Test.YtnapepbdohidgaaGreatDoorQM35
import Derived.Test.YtnapepbdohidgaaGreatDoorQM39
import Derived.Test.YtnapepbdohidgaaGreatDoorQM16
namespace Go.Proofs.YtnapepbdohidgaaGreatDoorQ
open Go
open Go.Conc Go.ConcX Go.ConcX.Gen Go.RowKit
theorem answer_by (K : OpD→Prop) (hK : ∀ {A : Nat→Prop} {B k0 : Nat} {w : World} {st : St} {L : Lg} (_ : DeskAt A B w k0 st L) (s : Nat) (o : OpD) (_ : o.key.size≤maxLen) (_ : o.body.size≤maxLen) (_ : Inv st s) (_ : s < 2199023255552) (_ : K o) (_ : o.kind < 6∨12 < o.kind),Calls Tryq.prog 33 #[.pointer (some ⟨k0,0,none⟩),opVal o] w (AnsPost A B k0 w (stepSt st o).1 L ⟨(stepSt st o).2.code,(stepSt st o).2.ver,(stepSt st o).2.body,[],⟨#[]⟩⟩)) (Qok : Qy→Prop) (hQ : ∀ q,Qok q→CmnOk q∧SkyOk q) (G : World→Prop) (N : Nat) (hN : N < 2199023255540) (hG : ∀ w',G w') (hTok : ∀ n pg : Int,0≤n→n≤N→0≤pg→pg≤N+1→TokOk G n pg) : AnsAll Qok K N:=by
  intro A B k0 w st L h hB o hk hko hkz hbz s hI hT hL hs g0 cp toks hn c8 ht
  have hbg:=hL.begun
  by_cases h6 : o.kind=6
  · simp only [stepA,if_pos h6]
    obtain ⟨kind,key,body,delim,past,n,src⟩:=o
    simp only at h6
    subst h6
    exact answer_list6 Qok hQ h hB hL.len key body delim past n src (hko.q rfl) (hT.sum _) hkz (by omega) G hG (hTok _ _ (by omega) (by omega) (by omega) (by omega))
  by_cases h8 : o.kind=8
  · simp only [stepA,if_neg h6,if_pos h8]
    exact answer_next Qok hQ h hB hL.len o h8 g0 cp toks (by omega) (hn.symm ▸ c8) ht hL.ok (fun tok n pg e=>by have:=hL.told tok n pg e; omega) G hG (fun tok n pg e _=>by have:=hL.told tok n pg e; exact hTok _ _ (by omega) (by omega) (by omega) (by omega))
  by_cases h9 : o.kind=9
  · simp only [stepA,if_neg h6,if_neg h8,if_pos h9]
    exact (answer_tick h hB hL.len hL.left o h9).mono fun e w' h=>.inl h
  by_cases h10 : o.kind=10
  · simp only [stepA,if_neg h6,if_neg h8,if_neg h9,if_pos h10]
    exact (answer_stats h hB hL.len o h10).mono fun e w' h=>.inl h
  · simp only [stepA,if_neg h6,if_neg h8,if_neg h9,if_neg h10]
    have:=hko.k7
    have:=hko.k11
    have:=hko.k12
    exact (hK h s o hkz hbz hI (by omega) hk (by omega)).mono fun e w' h=>.inl h
def Few (o : OpD) : Prop:=o.kind < 6∨12 < o.kind→o.kind=1∨o.kind=4
theorem answer_fews (Qok : Qy→Prop) (hQ : ∀ q,Qok q→CmnOk q∧SkyOk q) (G : World→Prop) (N : Nat) (hN : N < 2199023255540) (hG : ∀ w',G w') (hTok : ∀ n pg : Int,0≤n→n≤N→0≤pg→pg≤N+1→TokOk G n pg) : AnsAll Qok Few N:=
  answer_by Few (fun h s o h1 h2 h3 h4 hk h6=>answer_few h s o h1 h2 h3 h4 (hk h6)) Qok hQ G N hN hG hTok
end Go.Proofs.YtnapepbdohidgaaGreatDoorQ
namespace Go.Proofs.YtnapepbdohidgaaGreatDoorQ
open Go
theorem oneV_self {v : Value} (h : oneV v=true) (ρ : Ren) : RV ρ v v:=by
  cases v with
  | bool b=>exact .bool b
  | int k n=>exact .int k n
  | string s=>exact .string s
  | pointer a=>cases a with
    | none=>exact .pointer .none
    | some a=>cases h
  | slice a n c=>cases a with
    | none=>exact .slice n c .none
    | some a=>cases h
  | map r=>cases r with
    | none=>exact .map .none
    | some r=>cases h
  | chan r=>cases r with
    | none=>exact .chan .none
    | some r=>cases h
  | nilFunc=>exact .nilFunc
  | nilIface=>exact .nilIface
  | _=>cases h
theorem all_self {c : Array Value} {p : Value→Bool} (h : c.all p=true) {ρ : Ren} (hp : ∀ v,p v=true→RV ρ v v) : RVs ρ c c:=⟨rfl,fun i v v' h1 h2=>by
  rw [h1] at h2
  cases h2
  obtain ⟨hi,rfl⟩:=Array.getElem?_eq_some_iff.1 h1
  exact hp _ (Array.all_eq_true.1 h i hi)⟩
theorem plainV_self {v : Value} (h : plainV v=true) (ρ : Ren) : RV ρ v v:=by
  unfold plainV at h
  split at h
  · exact .agg rfl (all_self h (fun v h=>oneV_self h ρ)).at_
  · exact .tuple rfl (all_self h (fun v h=>oneV_self h ρ)).at_
  · exact .iface _ (oneV_self h ρ)
  · exact oneV_self h ρ
def selfV : Value→Bool
  | .agg c=>c.all plainV
  | .tuple c=>c.all plainV
  | v=>plainV v
theorem selfV_self {v : Value} (h : selfV v=true) (ρ : Ren) : RV ρ v v:=by
  unfold selfV at h
  split at h
  · exact .agg rfl (all_self h (fun v h=>plainV_self h ρ)).at_
  · exact .tuple rfl (all_self h (fun v h=>plainV_self h ρ)).at_
  · exact plainV_self h ρ
theorem cells_self {ρ : Ren} {z : Value} (h : RV ρ z z) : RVs ρ z.cells z.cells:=by
  have one : RVs ρ #[z] #[z]:=⟨rfl,fun i v v' h1 h2=>by
    rw [h1] at h2
    cases h2
    cases i with
    | zero=>simp at h1; subst h1; exact h
    | succ i=>simp at h1⟩
  cases z with
  | agg c=>
    cases h with
    | agg hc hx=>exact ⟨rfl,hx⟩
  | _=>exact one
theorem RVs.append' {ρ : Ren} {a a' b b' : Array Value} (h : RVs ρ a a') (k : RVs ρ b b') : RVs ρ (a++b) (a'++b'):=⟨by simp [h.size,k.size],fun i v v' h1 h2=>by
  rw [Array.getElem?_append] at h1 h2
  by_cases hi : i < a.size
  · rw [if_pos hi] at h1
    rw [if_pos (by rw [←h.size]; exact hi)] at h2
    exact h.at_ i v v' h1 h2
  · rw [if_neg hi] at h1
    rw [if_neg (by rw [←h.size]; exact hi),←h.size] at h2
    exact k.at_ _ v v' h1 h2⟩
def Zi (i : TypeInfo) : Prop:=∀ z,i.zero=some z→∀ ρ,RV ρ z z
theorem flat_self {ρ : Ren} {c : Array Value} (h : RVs ρ c c) (n : Nat) : RVs ρ (Array.replicate n c).flatten (Array.replicate n c).flatten:=by
  induction n with
  | zero=>simp; exact RVs.nil
  | succ n ih=>
    rw [Array.replicate_succ,Array.flatten_push]
    exact ih.append' h
theorem forIn_inv {α β : Type} (body : α→β→Option (ForInStep β)) (I : β→Prop) (hb : ∀ a b s,I b→body a b=some s→I (match s with | .done x=>x | .yield x=>x)) : ∀ (l : List α) (b r : β),I b→forIn l b body=some r→I r:=by
  intro l
  induction l with
  | nil=>intro b r hI h; simp at h; subst h; exact hI
  | cons a l ih=>
    intro b r hI h
    rw [List.forIn_cons] at h
    cases hx : body a b with
    | none=>rw [hx] at h; cases h
    | some s=>
      rw [hx] at h
      have:=hb a b s hI hx
      cases s with
      | done x=>cases h; exact this
      | yield x=>exact ih x r this h
theorem word_zi {d : TypeDesc} {str : String} {z : Value} {c : Bool} {b : Nat} (h : oneV z=true) : Zi (Made.word d str z c b):=fun y hy ρ=>by
  cases hy
  exact oneV_self h ρ
theorem struct_zi {info : TypeId→Option TypeInfo} (hi : ∀ t i,info t=some i→Zi i) {fs : Array Field} {i : TypeInfo} (h : Made.reckonStruct info fs=some i) : Zi i:=by
  unfold Made.reckonStruct at h
  dsimp only at h
  rw [←Array.forIn_toList] at h
  rw [Option.bind_eq_bind,Option.bind_eq_some_iff] at h
  obtain ⟨r,hr,h⟩:=h
  have key:=forIn_inv _ (fun r=>∀ a,r.2.2.2.2.2.2.2.1=some a→∀ ρ,RVs ρ a a) (fun f b s hI hs=>by
    rw [Option.bind_eq_bind,Option.bind_eq_some_iff] at hs
    obtain ⟨i,hf,hs⟩:=hs
    have hz : ∀ a,(if b.2.1+i.size > Made.mostCells then none else (b.2.2.2.2.2.2.2.1.bind fun x=>i.zero.bind fun y=>some (x++y.cells)))=some a→∀ ρ,RVs ρ a a:=fun a ha ρ=>by
      split at ha
      · cases ha
      · rw [Option.bind_eq_some_iff] at ha
        obtain ⟨x,hx,ha⟩:=ha
        rw [Option.bind_eq_some_iff] at ha
        obtain ⟨y,hy,ha⟩:=ha
        cases ha
        exact (hI x hx ρ).append' (cells_self (hi _ _ hf y hy ρ))
    simp only [Option.bind_eq_bind,Option.pure_def,Option.bind_none,Option.bind_some] at hs
    generalize (if b.2.1+i.size > Made.mostCells then none else (b.2.2.2.2.2.2.2.1.bind fun x=>i.zero.bind fun y=>some (x++y.cells)))=zx at hs hz
    generalize (if b.fst.size + 1 < fs.size then ";" else "") = sm at hs
    split at hs
    · cases hs
    · split at hs
      · cases hs
      · split at hs
        · split at hs <;> (cases hs; exact hz)
        · rw [Option.bind_eq_some_iff] at hs
          obtain ⟨tg,-,hs⟩:=hs
          split at hs <;> (cases hs; exact hz)) _ _ r (fun a ha ρ=>by cases ha; exact RVs.nil) hr
  intro z hz ρ
  have fin : ∀ (o : Option (Array Value)),(∀ a,o=some a→∀ ρ,RVs ρ a a)→o.map Value.agg=some z→RV ρ z z:=fun o ho h=>by
    cases o with
    | none=>cases h
    | some a=>cases h; exact .agg rfl (ho a rfl ρ).at_
  split at h
  · cases h; exact fin _ key hz
  · cases h; exact fin _ key hz
theorem reckon_zi {info : TypeId→Option TypeInfo} (hi : ∀ t i,info t=some i→Zi i) {d : TypeDesc} {i : TypeInfo} (h : Made.reckon info d=some i) : Zi i:=by
  unfold Made.reckon at h
  cases d with
  | struct fs=>exact struct_zi hi h
  | array n e=>
    simp only [Option.bind_eq_bind,Option.pure_def,Option.bind_eq_some_iff] at h
    obtain ⟨j,hj,s,-,h⟩:=h
    cases h
    intro z hz ρ
    simp only at hz
    split at hz
    · cases hz
    · split at hz
      · cases hz; exact .agg rfl RVs.nil.at_
      · cases hx : j.zero with
        | none=>rw [hx] at hz; cases hz
        | some y=>
          rw [hx] at hz
          cases hz
          exact .agg rfl (flat_self (cells_self (hi _ _ hj y hx ρ)) n).at_
  | pointer e=>
    simp only [Option.bind_eq_bind,Option.pure_def,Option.bind_eq_some_iff] at h
    obtain ⟨j,hj,h⟩:=h
    split at h
    · cases h
    · split at h
      · cases h
      · rw [Option.bind_eq_some_iff] at h
        obtain ⟨s,-,h⟩:=h
        cases h
        exact word_zi rfl
    · rw [Option.bind_eq_some_iff] at h
      obtain ⟨s,-,h⟩:=h
      cases h
      exact word_zi rfl
  | slice e=>
    simp only [Option.bind_eq_bind,Option.pure_def,Option.bind_eq_some_iff] at h
    obtain ⟨j,hj,s,-,h⟩:=h
    cases h
    exact word_zi rfl
  | map k e=>
    simp only [Option.bind_eq_bind,Option.pure_def,Option.bind_eq_some_iff] at h
    obtain ⟨j,hj,s,-,j2,-,s2,-,h⟩:=h
    cases h
    exact word_zi rfl
  | chan dir e=>
    simp only [Option.bind_eq_bind,Option.pure_def,Option.bind_eq_some_iff] at h
    obtain ⟨j,hj,s,-,h⟩:=h
    cases h
    exact word_zi rfl
  | func ps rs v=>
    simp only [Option.bind_eq_bind,Option.pure_def,Option.bind_eq_some_iff] at h
    obtain ⟨s,-,h⟩:=h
    cases h
    exact word_zi rfl
  | _=>cases h
theorem zero_ok {P : Program} (h : ∀ (t : Nat) (i : TypeInfo) (z : Value),P.types[t]?=some i→i.zero=some z→selfV z=true) : ZeroOk P:=by
  have ht : ∀ (t : Nat) (i : TypeInfo),P.types[t]?=some i→Zi i:=fun t i hi z hz ρ=>selfV_self (h t i z hi hz) ρ
  have hm : ∀ f t i,Made.infoAt P.toTables f t=some i→Zi i:=fun f=>by
    induction f with
    | zero=>intro t i h; cases h
    | succ f ih=>
      intro t i h
      unfold Made.infoAt at h
      split at h
      · exact ht t i h
      · rw [Option.bind_eq_some_iff] at h
        obtain ⟨d,-,h⟩:=h
        exact reckon_zi (fun t i h=>ih t i h) h
  intro t i z hi hz ρ
  unfold Tables.info? at hi
  split at hi
  · exact ht t i hi z hz ρ
  · exact hm _ t i hi z hz ρ
end Go.Proofs.YtnapepbdohidgaaGreatDoorQ
