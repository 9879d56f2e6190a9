/- Part of a proof. -/
import Derived.Test.YtnapepbdohidgaaGreatDoorQM17
import Derived.Test.YtnapepbdohidgaaGreatDoorQM40
import Derived.KernelRfl
namespace Go.Proofs.YtnapepbdohidgaaGreatDoorQ
open Go
def rg (a b f : Nat) : Bool:=Nat.ble a f && Nat.ble f b
def Gs (f : Nat) : Bool:=rg 3 68 f || rg 70 96 f || rg 98 118 f || rg 121 137 f || rg 141 154 f || rg 158 164 f || rg 167 171 f || rg 176 179 f || rg 182 183 f || f == 1000000 || f == 1000001 || f == 2000069
def Ss (f : Nat) : Bool:=f == 64 || f == 91 || f == 101 || f == 111 || f == 116 || rg 119 120 f || rg 122 123 f || rg 133 135 f || rg 138 140 f || f == 153 || rg 155 157 f || rg 165 166 f || rg 172 175 f || rg 180 181 f || f == 1000002
def Rs (f : Nat) : Bool:=f == 98 || f == 121 || f == 141 || f == 151 || f == 158 || rg 167 170 f || rg 176 179 f || rg 182 183 f || f == 1000001
def As (f : Nat) : Bool:=rg 3 183 f || rg 1000000 1000003 f
def chkF (P : Program) (F : FuncId→Bool) : Bool:=(List.range 206).all fun f=>!F f || (match P.funcs[f]? with | some fn=>(match fn.body with | some b=>okCode P F b | none=>f == 136 || f == 173 || f == 180) | none=>true)
theorem chkF_code {P : Program} {F : FuncId→Bool} (h : chkF P F=true) (hs : P.funcs.size=206) : ∀ (f : FuncId) fn b,F f=true→P.funcs[f]?=some fn→fn.body=some b→okCode P F b=true:=fun f fn b hF hf hb=>by
  have hlt : f < 206:=by rw [←hs]; exact (Array.getElem?_eq_some_iff.1 hf).1
  have:=List.all_eq_true.1 h f (List.mem_range.2 hlt)
  rw [hF,hf] at this
  simp only [hb] at this
  simpa using this
theorem chkF_none {P : Program} {F : FuncId→Bool} (h : chkF P F=true) (hs : P.funcs.size=206) : ∀ (f : FuncId) fn,F f=true→P.funcs[f]?=some fn→fn.body=none→f=136∨f=173∨f=180:=fun f fn hF hf hb=>by
  have hlt : f < 206:=by rw [←hs]; exact (Array.getElem?_eq_some_iff.1 hf).1
  have:=List.all_eq_true.1 h f (List.mem_range.2 hlt)
  rw [hF,hf] at this
  simp only [hb] at this
  have:=this
  simp at this
  rcases this with (h | h) | h
  · exact .inl h
  · exact .inr (.inl h)
  · exact .inr (.inr h)
theorem size_z : Tryz.prog.funcs.size=206:=by kernel_rfl
theorem size_q : Tryq.prog.funcs.size=206:=by kernel_rfl
theorem chk_G : chkF Tryz.prog Gs=true:=by kernel_rfl
theorem chk_S : chkF Tryz.prog Ss=true:=by kernel_rfl
theorem chk_R : chkF Tryz.prog Rs=true:=by kernel_rfl
theorem chk_S1 : chkF Tryq.prog Ss=true:=by kernel_rfl
theorem chk_R1 : chkF Tryq.prog Rs=true:=by kernel_rfl
theorem chk_A1 : chkF Tryq.prog As=true:=by kernel_rfl
theorem okG_z : okCode Tryz.prog Gs (cSnd (cFst pgCall))=true∧okCode Tryz.prog Gs (cSnd pgCall)=true:=⟨by kernel_rfl,by kernel_rfl⟩
theorem okR_z : okCode Tryz.prog Rs (cSnd (cFst pgCall))=true∧okCode Tryz.prog Rs (cSnd pgCall)=true:=⟨by kernel_rfl,by kernel_rfl⟩
theorem okR_q : okCode Tryq.prog Rs (cSnd (cFst pgCall))=true∧okCode Tryq.prog Rs (cSnd pgCall)=true:=⟨by kernel_rfl,by kernel_rfl⟩
theorem notR_z : okCode Tryz.prog Rs (bodyOf Tryz.f69)=false:=by kernel_rfl
def chkZ (P : Program) : Bool:=P.types.all fun i=>match i.zero with | some z=>selfV z | none=>true
theorem zero_of_chk {P : Program} (h : chkZ P=true) : ZeroOk P:=zero_ok fun t i z hi hz=>by
  obtain ⟨ht,rfl⟩:=Array.getElem?_eq_some_iff.1 hi
  have:=Array.all_eq_true.1 h t ht
  simp only [hz] at this
  exact this
theorem zero_z : ZeroOk Tryz.prog:=zero_of_chk (by kernel_rfl)
theorem zero_q : ZeroOk Tryq.prog:=zero_of_chk (by kernel_rfl)
theorem count_of_chk {P : Program} (h : (P.funcs.all fun f => !(f.name == "runtime.NumGoroutine")) = true) : NoCount P := fun f fn hf e => by
  obtain ⟨ht,rfl⟩:=Array.getElem?_eq_some_iff.1 hf
  have:=Array.all_eq_true.1 h f ht
  rw [e] at this
  cases this
theorem count_z : NoCount Tryz.prog:=count_of_chk (by kernel_rfl)
theorem count_q : NoCount Tryq.prog:=count_of_chk (by kernel_rfl)
end Go.Proofs.YtnapepbdohidgaaGreatDoorQ
