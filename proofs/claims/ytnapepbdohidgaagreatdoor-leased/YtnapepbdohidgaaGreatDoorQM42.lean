/- Part of a proof. -/
import Derived.Test.YtnapepbdohidgaaGreatDoorQM06
import Derived.Test.YtnapepbdohidgaaGreatDoorQM41
import Derived.Test.YtnapepbdohidgaaGreatDoorQM38
import Derived.Test.YtnapepbdohidgaaGreatDoorQM40
import Derived.Test.YtnapepbdohidgaaGreatDoorQM18
import Derived.Test.YtnapepbdohidgaaGreatDoorQM27
import Derived.Conc.LeavingOf
namespace Go.Proofs.YtnapepbdohidgaaGreatDoorQ
open Go
section
variable {P : Program} [Two P] {ρ : Ren}
theorem rs_xBytes : ∀ (n : Nat) {ρ : Ren} {a a' : Addr} (acc : ByteArray),RA ρ a a'→RS P QE ρ (Extern.Bytes.loadBytes a n acc) (Extern.Bytes.loadBytes a' n acc):=by
  intro n
  induction n with
  | zero=>intro ρ a a' acc _; exact rs_pure rfl
  | succ n ih=>
    intro ρ a a' acc h
    unfold Extern.Bytes.loadBytes
    refine rs_bind (rs_load h _) (fun ρ1 l1 v v' hv=>?_)
    cases hv with
    | int k b=>cases k <;> first | exact rs_stuck _ | exact ih _ ((h.mono l1).add 1)
    | _=>exact rs_stuck _
theorem rs_bytesOf {v v' : Value} (h : RV ρ v v') : RS P QE ρ (Extern.Bytes.bytesOf v) (Extern.Bytes.bytesOf v'):=by
  cases h with
  | string s=>exact rs_pure rfl
  | slice n c ha=>
    cases ha with
    | none=>exact rs_pure rfl
    | some ha=>exact rs_xBytes n _ ha
  | _=>exact rs_stuck _
theorem rs_asByte {v v' : Value} (h : RV ρ v v') : RS P QE ρ (Extern.Bytes.asByte v) (Extern.Bytes.asByte v'):=by
  cases h with
  | int k n=>cases k <;> first | exact rs_stuck _ | exact rs_pure rfl
  | _=>exact rs_stuck _
theorem rs_two {Q : Ren→Value→Value→Prop} {g : Array Value→Sem Value} (h : ∀ x x' y y',RV ρ x x'→RV ρ y y'→RS P Q ρ (g #[x,y]) (g #[x',y'])) (hn : ∀ a : Array Value,a.size≠2→LostS (g a)) {a a' : Array Value} (hr : RVs ρ a a') : RS P Q ρ (g a) (g a'):=by
  by_cases hs : a.size=2
  · obtain ⟨l⟩:=a
    obtain ⟨l'⟩:=a'
    have hl : l.length=l'.length:=by simpa using hr.size
    rcases l with - | ⟨x,- | ⟨y,- | ⟨z,l⟩⟩⟩ <;> simp at hs
    rcases l' with - | ⟨x',- | ⟨y',- | ⟨z',l'⟩⟩⟩ <;> simp at hl
    exact h x x' y y' (hr.at_ 0 x x' rfl rfl) (hr.at_ 1 y y' rfl rfl)
  · exact .lost (hn a hs) _
theorem rs_indexByte {a a' : Array Value} (hr : RVs ρ a a') : RS P QV ρ (Extern.BytealgIndexByte.indexByte a) (Extern.BytealgIndexByte.indexByte a'):=by
  refine rs_two (fun x x' y y' hx hy=>?_) (fun a ha=>?_) hr
  · unfold Extern.BytealgIndexByte.indexByte
    refine rs_bindE (rs_bytesOf hx) (fun ρ1 l1 b=>?_)
    refine rs_bindE (rs_asByte (hy.mono l1)) (fun ρ2 l2 c=>?_)
    split <;> exact rs_pure (.int _ _)
  · obtain ⟨l⟩:=a
    rcases l with - | ⟨x,- | ⟨y,- | ⟨z,l⟩⟩⟩
    · exact .halt rfl
    · exact .halt rfl
    · simp at ha
    · exact .halt rfl
theorem rs_globalAddr (hI : GId P ρ) (name : String) : RS P QA ρ (globalAddr name) (globalAddr name):=by
  unfold globalAddr
  refine rs_program' ?_ rfl
  cases h : P.globals.findIdx? (·.name == name) with
  | none=>exact rs_stuck _
  | some g=>
    refine rs_pure ⟨hI.glob g ?_,rfl,rfl⟩
    exact (Array.findIdx?_eq_some_iff_getElem.1 h).1
theorem rs_maxLen (hI : GId P ρ) : RS P QE ρ Extern.BytealgIndex.maxLen Extern.BytealgIndex.maxLen:=by
  unfold Extern.BytealgIndex.maxLen
  refine rs_bind (rs_globalAddr hI _) (fun ρ1 l1 a a' h=>?_)
  refine rs_bind (rs_load h _) (fun ρ2 l2 v v' hv=>rs_asInt hv)
theorem rs_xIndex (hI : GId P ρ) {a a' : Array Value} (hr : RVs ρ a a') : RS P QV ρ (Extern.BytealgIndex.index a) (Extern.BytealgIndex.index a'):=by
  refine rs_two (fun x x' y y' hx hy=>?_) (fun a ha=>?_) hr
  · unfold Extern.BytealgIndex.index
    refine rs_bindE (rs_bytesOf hx) (fun ρ1 l1 b=>?_)
    refine rs_bindE (rs_bytesOf (hy.mono l1)) (fun ρ2 l2 c=>?_)
    refine rs_bindE (rs_maxLen ((hI.mono l1).mono l2)) (fun ρ3 l3 m=>?_)
    refine rs_ite (fun _=>rs_bindN (rs_unsupported _)) (fun _=>?_)
    refine rs_ite (fun _=>rs_bindN (rs_unsupported _)) (fun _=>?_)
    split <;> exact rs_pure (.int _ _)
  · obtain ⟨l⟩:=a
    rcases l with - | ⟨x,- | ⟨y,- | ⟨z,l⟩⟩⟩
    · exact .halt rfl
    · exact .halt rfl
    · simp at ha
    · exact .halt rfl
theorem rs_frozen (hB : ρ.F bigF=true) {a a' : Addr} (h : RA ρ a a') : RS P QE ρ (frozen a) (frozen a'):=.frozen h (fun s=>rs_pure rfl) (fun e=>by rw [hB] at e; cases e)
theorem rs_stringish (hB : ρ.F bigF=true) {a a' : Addr} (h : RA ρ a a') : RS P QE ρ (stringish a) (stringish a'):=by
  unfold stringish
  refine rs_bindE (rs_frozen hB h) (fun ρ0 l0 z=>?_)
  refine rs_ite (fun _=>rs_pure rfl) (fun _=>?_)
  refine rs_bindE (rs_shape (l0 _ _ h.1)) (fun ρ1 l1 s=>?_)
  rcases s with - | ⟨e,n⟩
  · exact rs_pure rfl
  · exact rs_frozen (by rw [l1.F,l0.F]; exact hB) ⟨l1 _ _ (l0 _ _ h.1),rfl,rfl⟩
theorem rs_mayBeOne (hB : ρ.F bigF=true) {a a' b b' : Addr} (ha : RA ρ a a') (hb : RA ρ b b') : RS P QE ρ (mayBeOne a b) (mayBeOne a' b'):=by
  unfold mayBeOne
  refine rs_bindE (rs_stringish hB ha) (fun ρ1 l1 x=>?_)
  refine rs_bindE (rs_stringish (by rw [l1.F]; exact hB) (hb.mono l1)) (fun ρ2 l2 y=>?_)
  refine rs_bindE (rs_bindE (rs_shape (l2 _ _ (l1 _ _ ha.1))) (fun ρ3 l3 s=>rs_pure rfl)) (fun ρ3 l3 u=>?_)
  refine rs_bindE (rs_bindE (rs_shape (l3 _ _ (l2 _ _ (l1 _ _ hb.1)))) (fun ρ4 l4 s=>rs_pure rfl)) (fun ρ4 l4 v=>?_)
  exact rs_pure rfl
theorem rs_overlaps (hB : ρ.F bigF=true) (ps rs : Array TypeId) {a a' : Array Value} (hr : RVs ρ a a') : RS P QV ρ (Extern.SlicesOverlaps.overlaps ps rs a) (Extern.SlicesOverlaps.overlaps ps rs a'):=by
  refine rs_two (g:=Extern.SlicesOverlaps.overlaps ps rs) (fun x x' y y' hx hy=>?_) (fun a ha=>?_) hr
  · cases hx with
    | @slice a a' la ca hxa=>
      cases hy with
      | @slice b b' lb cb hyb=>
        unfold Extern.SlicesOverlaps.overlaps
        cases hp : ps[0]? with
        | none=>exact rs_stuck _
        | some t=>
          refine rs_bindE (rs_underlying t) (fun ρ1 l1 d=>?_)
          cases d with
          | slice el=>
            refine rs_bindE (rs_sizeOf el) (fun ρ2 l2 sz=>?_)
            cases hxa with
            | none=>exact rs_pure (.bool _)
            | @some a a' ha=>
              cases hyb with
              | none=>exact rs_pure (.bool _)
              | @some b b' hb=>
                have l12:=Ren.le_trans l1 l2
                refine rs_ite (fun _=>rs_pure (.bool _)) (fun _=>?_)
                refine rs_bindE (rs_frozen (by rw [l12.F]; exact hB) (ha.mono l12)) (fun ρ3 l3 fa=>?_)
                refine rs_bindE (rs_frozen (by rw [l3.F,l12.F]; exact hB) ((hb.mono l12).mono l3)) (fun ρ4 l4 fb=>?_)
                have l04:=Ren.le_trans (Ren.le_trans l12 l3) l4
                have hA:=ha.mono l04
                have hBb:=hb.mono l04
                have hne : (a.block != b.block)=(a'.block != b'.block):=by
                  have:=beq_of_rel hA.1 hBb.1
                  simp only [bne,this]
                have heq : (a.block == b.block)=(a'.block == b'.block):=beq_of_rel hA.1 hBb.1
                have hB4 : ρ4.F bigF=true:=by rw [l04.F]; exact hB
                rw [←hne,←ha.2.1,←hb.2.1,←heq]
                refine rs_ite (fun _=>rs_unsupported _) (fun _=>?_)
                refine rs_ite (fun _=>?_) (fun _=>rs_pure (.bool _))
                refine rs_bind (rs_noView hA) (fun ρ5 l5 _ _ _=>?_)
                refine rs_bind (rs_noView (hBb.mono l5)) (fun ρ6 l6 _ _ _=>?_)
                refine rs_bindE (rs_mayBeOne (by rw [l6.F,l5.F]; exact hB4) ((hA.mono l5).mono l6) ((hBb.mono l5).mono l6)) (fun ρ7 l7 m=>?_)
                refine rs_ite (fun _=>?_) (fun _=>rs_pure (.bool _))
                exact rs_bindE (rs_choose _) (fun ρ8 l8 n=>rs_pure (.bool _))
          | _=>exact rs_stuck _
      | _=>exact rs_stuck _
    | _=>exact rs_stuck _
  · obtain ⟨l⟩:=a
    rcases l with - | ⟨x,- | ⟨y,- | ⟨z,l⟩⟩⟩
    · exact .halt rfl
    · exact .halt rfl
    · simp at ha
    · exact .halt rfl
end
theorem extOk_of {P : Program} [Two P] {F : FuncId → Bool} (hx : ∀ f fn, F f = true → P.funcs[f]? = some fn → fn.body = none → fn.name ≠ "runtime.NumGoroutine" ∧ Extern.findNext fn = none ∧ ∃ e, Extern.find fn = some e ∧ ∀ ρ a a', ρ.F = F → GId P ρ → RVs ρ a a' → RS P QV ρ (e a) (e a')) : ExtOk P F := by
  intro f fn hF hf hb ρ a a' hFF hI h
  obtain ⟨h1,h2,e,h3,h4⟩:=hx f fn hF hf hb
  have hn : (fn.name == "runtime.NumGoroutine") = false := beq_eq_false_iff_ne.2 h1
  unfold callFunc
  refine rs_program' ?_ (by simp only [hI.alt f (by rw [hFF]; exact hF)])
  simp only [hf,hn,hb,Option.isNone_none,if_true,h2,h3]
  exact .mark (.extern f) (rs_val (h4 ρ a a' hFF hI h))
@[reducible] noncomputable def twoZ : Two Tryz.prog:=⟨Tryq.prog.funcs⟩
@[reducible] noncomputable def twoQ : Two Tryq.prog:=⟨Tryq.prog.funcs⟩
theorem sw_alt {P : Program} {p q : FuncId} {a b : Func} : @Program.alt P ⟨(Sw.prog P p q a b).funcs⟩=Sw.prog P p q a b:=rfl
theorem own_alt {P : Program} : @Program.alt P ⟨P.funcs⟩=P:=rfl
theorem alt_z : @Program.alt Tryz.prog twoZ=Tryq.prog:=sw_alt
theorem alt_q : @Program.alt Tryq.prog twoQ=Tryq.prog:=own_alt
theorem next136 : Extern.findNext Tryz.f136=none:=by kernel_rfl
theorem next173 : Extern.findNext Tryz.f173=none:=by kernel_rfl
theorem next180 : Extern.findNext Tryz.f180=none:=by kernel_rfl
theorem find136 : Extern.find Tryz.f136=some (Extern.SlicesOverlaps.overlaps Tryz.f136.params Tryz.f136.resultTypes):=by kernel_rfl
theorem find173 : Extern.find Tryz.f173=some Extern.BytealgIndex.index:=by kernel_rfl
theorem find180 : Extern.find Tryz.f180=some Extern.BytealgIndexByte.indexByte:=by kernel_rfl
theorem ext_of {P : Program} [Two P] {F : FuncId→Bool} (hs : P.funcs.size=206) (hc : chkF P F=true) (h136 : P.funcs[136]?=some Tryz.f136) (h173 : P.funcs[173]?=some Tryz.f173) (h180 : P.funcs[180]?=some Tryz.f180) (hB : F 136=true→F bigF=true) : ExtOk P F:=
  extOk_of fun f fn hF hf hb=>by
    rcases chkF_none hc hs f fn hF hf hb with rfl | rfl | rfl
    · rw [h136] at hf
      cases hf
      exact ⟨by decide,next136,_,find136,fun ρ a a' hFF hI h=>rs_overlaps (by rw [hFF]; exact hB hF) _ _ h⟩
    · rw [h173] at hf
      cases hf
      exact ⟨by decide,next173,_,find173,fun ρ a a' hFF hI h=>rs_xIndex hI h⟩
    · rw [h180] at hf
      cases hf
      exact ⟨by decide,next180,_,find180,fun ρ a a' hFF hI h=>rs_indexByte h⟩
theorem funcs_ne {f : Nat} (h1 : 69≠f) (h2 : 97≠f) : Tryq.prog.funcs[f]?=Tryz.prog.funcs[f]?:=Sw.ne h1 h2 rfl
theorem size_eq : Tryq.prog.funcs.size=Tryz.prog.funcs.size:=size_q.trans size_z.symm
theorem strip_eq (f : Nat) : (Tryq.prog.funcs[f]?).map strip=(Tryz.prog.funcs[f]?).map strip:=by
  by_cases h1 : 69=f
  · subst h1
    rw [Tryq.func69,Tryz.func69]
    rfl
  · by_cases h2 : 97=f
    · subst h2
      rw [Tryq.func97,Tryz.func97]
      rfl
    · rw [funcs_ne h1 h2]
theorem mk_G {f : Nat} (h : Mk Gs f=true) : f=69:=by
  have h : Gs (2000000+f)=true:=h
  unfold Gs rg at h
  simp only [Bool.or_eq_true,Bool.and_eq_true,Nat.ble_eq,beq_iff_eq] at h
  omega
theorem mk_S (f : Nat) : ¬Mk Ss f=true:=fun h=>by
  have h : Ss (2000000+f)=true:=h
  unfold Ss rg at h
  simp only [Bool.or_eq_true,Bool.and_eq_true,Nat.ble_eq,beq_iff_eq] at h
  omega
theorem mk_R (f : Nat) : ¬Mk Rs f=true:=fun h=>by
  have h : Rs (2000000+f)=true:=h
  unfold Rs rg at h
  simp only [Bool.or_eq_true,Bool.and_eq_true,Nat.ble_eq,beq_iff_eq] at h
  omega
theorem mk_A (f : Nat) : ¬Mk As f=true:=fun h=>by
  have h : As (2000000+f)=true:=h
  unfold As rg at h
  simp only [Bool.or_eq_true,Bool.and_eq_true,Nat.ble_eq] at h
  omega
theorem ne_of {F : FuncId→Bool} (h1 : F 69=false) (h2 : F 97=false) {f : Nat} (h : F f=true) : Tryq.prog.funcs[f]?=Tryz.prog.funcs[f]?:=
  funcs_ne (fun e=>by subst e; rw [h1] at h; cases h) (fun e=>by subst e; rw [h2] at h; cases h)
theorem stat_G : @StatF Tryz.prog twoZ Gs:=
  @StatF.mk Tryz.prog twoZ Gs (chkF_code chk_G size_z) (fun f h=>by rw [alt_z]; exact ne_of (by decide) (by decide) h) (fun f=>by rw [alt_z]; exact strip_eq f) (by rw [alt_z]; exact size_eq) (fun f h=>by
    obtain rfl:=mk_G h
    rw [alt_z]
    exact ⟨_,_,Tryq.func69,Tryz.func69,rfl,rfl,rfl⟩) (@ext_of Tryz.prog twoZ Gs size_z chk_G Tryz.func136 Tryz.func173 Tryz.func180 (fun _=>by decide))
theorem stat_S : @StatF Tryz.prog twoZ Ss:=
  @StatF.mk Tryz.prog twoZ Ss (chkF_code chk_S size_z) (fun f h=>by rw [alt_z]; exact ne_of (by decide) (by decide) h) (fun f=>by rw [alt_z]; exact strip_eq f) (by rw [alt_z]; exact size_eq) (fun f h=>absurd h (mk_S f)) (@ext_of Tryz.prog twoZ Ss size_z chk_S Tryz.func136 Tryz.func173 Tryz.func180 (fun h=>absurd h (by decide)))
theorem stat_R : @StatF Tryz.prog twoZ Rs:=
  @StatF.mk Tryz.prog twoZ Rs (chkF_code chk_R size_z) (fun f h=>by rw [alt_z]; exact ne_of (by decide) (by decide) h) (fun f=>by rw [alt_z]; exact strip_eq f) (by rw [alt_z]; exact size_eq) (fun f h=>absurd h (mk_R f)) (@ext_of Tryz.prog twoZ Rs size_z chk_R Tryz.func136 Tryz.func173 Tryz.func180 (fun h=>absurd h (by decide)))
theorem stat_S1 : @StatF Tryq.prog twoQ Ss:=
  @StatF.mk Tryq.prog twoQ Ss (chkF_code chk_S1 size_q) (fun _ _=>by rw [alt_q]) (fun _=>by rw [alt_q]) (by rw [alt_q]) (fun f h=>absurd h (mk_S f)) (@ext_of Tryq.prog twoQ Ss size_q chk_S1 Tryq.func136 Tryq.func173 Tryq.func180 (fun h=>absurd h (by decide)))
theorem stat_R1 : @StatF Tryq.prog twoQ Rs:=
  @StatF.mk Tryq.prog twoQ Rs (chkF_code chk_R1 size_q) (fun _ _=>by rw [alt_q]) (fun _=>by rw [alt_q]) (by rw [alt_q]) (fun f h=>absurd h (mk_R f)) (@ext_of Tryq.prog twoQ Rs size_q chk_R1 Tryq.func136 Tryq.func173 Tryq.func180 (fun h=>absurd h (by decide)))
theorem stat_A1 : @StatF Tryq.prog twoQ As:=
  @StatF.mk Tryq.prog twoQ As (chkF_code chk_A1 size_q) (fun _ _=>by rw [alt_q]) (fun _=>by rw [alt_q]) (by rw [alt_q]) (fun f h=>absurd h (mk_A f)) (@ext_of Tryq.prog twoQ As size_q chk_A1 Tryq.func136 Tryq.func173 Tryq.func180 (fun _=>by decide))
theorem env : @PgEnv twoZ twoQ Gs Ss Rs:=
  @PgEnv.mk twoZ twoQ Gs Ss Rs alt_z zero_z zero_q count_z count_q stat_S stat_R stat_S1 stat_R1 (fun _f h=>mk_G h) ⟨rfl,rfl,rfl⟩ mk_S rfl ⟨rfl,rfl,rfl⟩ mk_R okG_z okR_z okR_q notR_z
end Go.Proofs.YtnapepbdohidgaaGreatDoorQ
namespace Go.Proofs.YtnapepbdohidgaaGreatDoorQ
open Go
open Go.RowKit
open Go.Conc Go.ConcX Go.ConcX.Gen
theorem ans_keys : AnsAll QKeys Few 98:=
  answer_fews QKeys qKeys_ok (fun _=>True) 98 (by omega) (fun _=>trivial) fun n pg h1 h2 h3 h4=>by
    obtain ⟨a,rfl⟩:=Int.eq_ofNat_of_zero_le h1
    obtain ⟨b,rfl⟩:=Int.eq_ofNat_of_zero_le h3
    exact tok_small a b (by omega) (by omega)
def intT (P : Program) (u : TypeId) : Bool:=match P.underlying u with | some (.int _)=>true | _=>false
theorem cell_one {P : Program} {w : World} {r : _root_.Go.Reach} {base : Nat} {u : TypeId} {v : Value} (hu : intT P u=true) (h : Cell.ok P w r base u v) : oneV v=true:=by
  unfold intT at hu
  unfold Cell.ok at h
  cases hx : P.underlying u with
  | none=>rw [hx] at hu; cases hu
  | some t=>
    rw [hx] at hu h
    cases t <;> first | (cases hu; done) | skip
    cases v <;> first | rfl | (exact h.elim)
theorem row_one {P : Program} {w : World} {t : TypeId} {cs : Array Value} (ht : (P.cellTypes P.depth t).map (fun ts=>ts.all (intT P))=some true) (h : Row.ok P w .any 0 t cs) : ∀ (i : Nat) v,cs[i]?=some v→oneV v=true:=by
  obtain ⟨ts,h1,-,h3⟩:=h
  rw [h1] at ht
  have ht' : ts.all (intT P)=true:=Option.some.inj ht
  intro i v hv
  obtain ⟨u,hu,hc⟩:=h3 i v hv
  exact cell_one (List.all_eq_true.1 ht' u (List.mem_of_getElem? hu)) hc
theorem snd_some {α β : Type} {x : Option (α×β)} {t : β} (h : x.map (·.2)=some t) : ∃ z,x=some (z,t):=by
  cases x with
  | none=>cases h
  | some a=>obtain ⟨z,y⟩:=a; cases h; exact ⟨z,rfl⟩
theorem start_of {W : World} (h : W.ShapedOpen Tryz.prog) : Start W (fun b=>b < Tryz.prog.globals.size):=by
  have hg : Tryz.prog.globals.size=4:=by kernel_rfl
  refine ⟨fun b hb=>?_,fun g hg=>hg⟩
  have key : ∀ t,((((begin Tryz.prog (fun _ _=>0) default).world.heap[b]?).bind Obj.row?).map (·.2)=some t)→(Tryz.prog.cellTypes Tryz.prog.depth t).map (fun ts=>ts.all (intT Tryz.prog))=some true→Tryz.prog.buildable t=true→∃ c e z,W.heap[b]?=some (.cells c e z)∧∀ (i : Nat) v,c[i]?=some v→oneV v=true:=fun t h1 h2 h3=>by
    obtain ⟨z,hz⟩:=snd_some h1
    obtain ⟨cs,e1,-,e3⟩:=h.1 b z t hb hz
    exact ⟨cs,t,(0,0),e1,row_one h2 (e3 h3)⟩
  rw [hg] at hb
  have hb4 : b=0∨b=1∨b=2∨b=3:=by omega
  rcases hb4 with rfl | rfl | rfl | rfl
  · exact key 3 (by kernel_rfl) (by kernel_rfl) (by kernel_rfl)
  · exact key 249 (by kernel_rfl) (by kernel_rfl) (by kernel_rfl)
  · exact key 253 (by kernel_rfl) (by kernel_rfl) (by kernel_rfl)
  · exact key 254 (by kernel_rfl) (by kernel_rfl) (by kernel_rfl)
theorem LeftW.frame {W w' : World} (h : LeftW W w') (may : MemPlace→Prop) : W.keptBut w' may:=by
  refine ⟨h.os,h.output,fun i hi=>?_⟩
  rw [h.block i hi]
  split <;> simp_all
theorem leased_fin (n t u : Int) (hn : -9223372036854775808≤n∧n≤9223372036854775807) (ht : -9223372036854775808≤t∧t≤9223372036854775807) (hu : -9223372036854775808≤u∧u≤9223372036854775807) (W : World) (hsh : W.ShapedOpen Tryz.prog) :
    Fin Tryz.prog (fun v W'=>v=.bool true∧LeftW W W') #[G (Frame.enter Tryz.prog 10 #[.int .i64 n,.int .i64 t,.int .i64 u] .normal) []] W none #[]:=by
  refine @company twoZ twoQ Gs Ss Rs As (PreP QKeys) env stat_G stat_A1 mk_A ⟨rfl,rfl,rfl,rfl⟩ (preP_ok QKeys qKeys_ok) recv_ok (preP_ce QKeys) 10 Tryz.f10 (bodyOf Tryz.f10) Tryz.func10 Tryq.func10 (by kernel_rfl) (by kernel_rfl) rfl rfl #[.int .i64 n,.int .i64 t,.int .i64 u] W _ (start_of hsh) (fun ρ _=>?_) (fun τ d=>?_)
  · refine row_self (fun i v hv=>?_)
    have : v∈#[Value.int .i64 n,.int .i64 t,.int .i64 u]:=Array.mem_of_getElem? hv
    simp at this
    rcases this with rfl | rfl | rfl <;> rfl
  · refine (leased_any 98 ans_keys (by omega) (by omega) n t u hn ht hu (W.on τ d)).mono ?_
    rintro e w' (⟨rfl,hl⟩ | hst)
    · exact .inl ⟨rfl,hl.os,hl.block⟩
    · exact .inr hst
end Go.Proofs.YtnapepbdohidgaaGreatDoorQ
