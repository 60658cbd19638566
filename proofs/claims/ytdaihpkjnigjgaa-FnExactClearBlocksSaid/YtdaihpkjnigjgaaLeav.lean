/- From a call that starts no goroutine to the row of one that might: alone at the return is leaving at the return. -/
import Derived.Test.YtdaihpkjnigjgaaProg
import Derived.Handed
import Derived.Conc.Holds
namespace Go.Proofs.Ytdaihpkjnigjgaa
set_option linter.unusedVariables false
theorem leaving_of_handed {a : Assume} {C : Checked} {os : Os} {f : FuncId} {r : Reach} {Pre : World → Array Value → Prop} {Post : World → Array Value → Value → World → Prop} (h : ReturnsInHanded a C os f r Pre Post) :
    ReturnsInLeavingWide a C os f r Pre Post := fun enter =>
  ReturnsInOpen.mono (fun last w t x => ⟨x.2.1, ⟨fun g hg => ⟨0, by
    have h1 := x.1.1
    unfold Machine.othersDone at h1
    rw [List.all_eq_true] at h1
    have := h1 g hg
    show g.status = .finished
    exact eq_of_beq this⟩, x.1.2⟩, x.2.2⟩) (fun _ x => x) (h enter)
end Go.Proofs.Ytdaihpkjnigjgaa
