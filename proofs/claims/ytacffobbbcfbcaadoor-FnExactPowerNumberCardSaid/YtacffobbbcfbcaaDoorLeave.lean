/- A call that starts no goroutine, for a row that says 'leaving': who returns alone leaves nobody behind. Plain facts, no walk. -/
import Derived.Conc.Holds
import Derived.Leaving
import Derived.Handed
namespace Go.Proofs.YtacffobbbcfbcaaDoor

theorem leave_of_handed {a : Assume} {C : Checked} {os : Os} {f : FuncId} {r : Reach} {Pre : World → Array Value → Prop} {Post : World → Array Value → Value → World → Prop}
    (h : ReturnsInHanded a C os f r Pre Post) : ReturnsInLeavingWide a C os f r Pre Post := fun enter =>
  ReturnsInOpen.mono (fun _ _ _ x => ⟨x.2.1, onlyLeaving_of_quiet x.1, x.2.2⟩) (fun _ x => x) (h enter)
end Go.Proofs.YtacffobbbcfbcaaDoor
