/- impl.fold over frames, each with its agg of a size. (made by tools/mkkt.py) -/
import Derived.Test.YtchbmnpajnlijaaFoldI
import Derived.Test.YtchbmnpajnlijaaFmRow
import Derived.Test.YtchbmnpajnlijaaEvAgg
namespace Go.Proofs.Ytchbmnpajnlijaa
open Go.RowKit Stab
/-- The agg of an event. -/
def aggF (s : Int) (F : Fm) : Ag := ⟨windowOf F.t s, F.y, 1, F.v, F.v, F.v⟩
def evF (F : Fm) : Bool := isEv F.k F.y F.t F.v
theorem evF_ok {s : Int} {F : Fm} (h : evF F = true) : SumOk (aggF s F) := by
  unfold evF isEv at h
  simp only [Bool.and_eq_true, decide_eq_true_eq] at h
  obtain ⟨h1, h2⟩ := h
  rw [h1, fOk_event] at h2
  simp only [Bool.and_eq_true] at h2
  have := inB_bd h2.2
  exact ⟨⟨by show (-1000000000 : Int) ≤ 1; omega, by show (1 : Int) ≤ 1000000000; omega⟩, ⟨by show (-1000000000 : Int) ≤ F.v; omega, by show F.v ≤ 1000000000; omega⟩⟩
end Go.Proofs.Ytchbmnpajnlijaa
