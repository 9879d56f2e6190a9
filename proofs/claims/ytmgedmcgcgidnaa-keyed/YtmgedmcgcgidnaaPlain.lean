/- shelf.Run, where no listing is asked for. -/
import Derived.Test.YtmgedmcgcgidnaaRun
namespace Go.Proofs.Ytmgedmcgcgidnaa
open Go.RowKit

/-- No listing is asked for. -/
def Plain (ops : List OpD) : Prop := ∀ o ∈ ops, o.kind ≠ 6 ∧ o.kind ≠ 7

theorem run_plain (v : Value) (ops : List OpD) (w : World) (h : ScrAt w v ops) (_hpl : Plain ops) :
    Calls Try.prog 9 #[v] w fun e w' => ∃ g, e = .returned (.slice (some ⟨g, 0, none⟩) ops.length ops.length) ∧
      w'.ownsRow w.heap.size 36 5 (.slice (some ⟨g, 0, none⟩) ops.length ops.length) ops.length (ansCells (runF ops)) ∧ Below w.heap.size w w' := run_scr v ops w h

end Go.Proofs.Ytmgedmcgcgidnaa
