/- A slice of sessions as an argument. -/
import Derived.Test.YtchbmnpajnlijaaOpenSession
namespace Go.Proofs.Ytchbmnpajnlijaa
open Go.ChangeShapes Go.WideShapes Go.ChangeAt Go.RowKit Go.Joins Go.Deep
set_option maxRecDepth 100000 in
theorem arg_sess {H : Type} {enc : TypeId × Value → H} {W : World} {base : Nat} {v : Value} {d : DataW H} {p : List MemPlace} (hv : Value.okWide Try.prog W .any base 36 v)
    (h : DataW.Trod enc Try.prog W 0 (fun _ => true) true 36 v d p) : ∃ a n c, v = .slice a n c ∧ ∃ l : List Ss, n = l.length ∧ Sss W W.heap.size a c l := by
  obtain ⟨a, n, c, rfl⟩ := okWide_slice Try.underlying36 hv
  obtain ⟨fuel, hf⟩ := h
  exact ⟨a, n, c, rfl, sessions_cells (by simpa [Value.cells] using hf)⟩
end Go.Proofs.Ytchbmnpajnlijaa
