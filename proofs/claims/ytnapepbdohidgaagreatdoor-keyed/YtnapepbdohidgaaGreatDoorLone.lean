/- A call that comes to no other goroutine, in the form that lets others leave. -/
import Derived.Conc.Holds
import Derived.Test.YtnapepbdohidgaaGreatDoorRows
namespace Go.Proofs.YtnapepbdohidgaaGreatDoor
open Go

theorem _root_.Go.ReturnsInHanded.leaving {a : Assume} {C : Checked} {os : Os} {f : FuncId} {r : Reach} {Pre : World → Array Value → Prop} {Post : World → Array Value → Value → World → Prop} (h : ReturnsInHanded a C os f r Pre Post) : ReturnsInLeavingWide a C os f r Pre Post :=
  fun enter => ReturnsInOpen.mono (fun m _ t x => ⟨x.2.1, ⟨fun g hg => ⟨0, by
    have h1 := List.all_eq_true.1 x.1.1 g hg
    exact eq_of_beq h1⟩, x.1.2⟩, x.2.2⟩) (fun _ x => x) (h enter)

end Go.Proofs.YtnapepbdohidgaaGreatDoor
