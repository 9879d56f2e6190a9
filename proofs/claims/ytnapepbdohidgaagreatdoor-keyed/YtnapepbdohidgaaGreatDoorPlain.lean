/- shelf.Run, where no listing is asked for. -/
import Derived.Test.YtnapepbdohidgaaGreatDoorRun
namespace Go.Proofs.YtnapepbdohidgaaGreatDoor
open Go.RowKit

theorem run_plain (v : Value) (ops : List OpD) (w : World) (h : ScrAt w v ops) (hpl : Plain ops) :
    Calls Tryz.prog 18 #[v] w fun e w' => ∃ g, e = .returned (.slice (some ⟨g, 0, none⟩) ops.length ops.length) ∧
      w'.ownsRow w.heap.size 36 5 (.slice (some ⟨g, 0, none⟩) ops.length ops.length) ops.length (ansCells (runF ops)) ∧ Below w.heap.size w w' := run_scr v ops w h hpl

end Go.Proofs.YtnapepbdohidgaaGreatDoor
