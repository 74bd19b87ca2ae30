/- Where a call returns alone, nobody is left behind: the row that says 'leaving'. No program. -/
import Derived.Conc.Holds
import Derived.Handed
namespace Go.Proofs.Ytchbmnpajnlijaa
open Go
theorem leaving_at {P : Program} {last : Machine} {w : World} {t : Trace} (h : aloneAtReturn P last w t) : leavingAtReturn P last w t := by
  obtain ⟨⟨h1, h2⟩, h3, h4⟩ := h
  refine ⟨h3, ⟨fun g hg => ?_, h2⟩, h4⟩
  have : g.status = .finished := by
    unfold Machine.othersDone at h1
    have := List.all_eq_true.1 h1 g hg
    simpa using this
  exact ⟨0, this⟩
theorem leaving_of_handed {a : Assume} {C : Checked} {os : Os} {f : FuncId} {r : Reach} {Pre : World → Array Value → Prop} {Post : World → Array Value → Value → World → Prop}
    (h : ReturnsInHanded a C os f r Pre Post) : ReturnsInLeavingWide a C os f r Pre Post := fun enter =>
  ReturnsInOpen.mono (fun _ _ _ x => leaving_at x) (fun _ x => x) (h enter)
end Go.Proofs.Ytchbmnpajnlijaa
