/- What an argument that is a join is as a value, out of its reading. -/
import Derived.Test.YtneolndbhklboaaOpenFmA
namespace Go.Proofs.Ytneolndbhklboaa
open Go.ChangeShapes Go.WideShapes Go.ChangeAt Go.RowKit Go.Joins Go.Deep

theorem cellsJoin : Try.prog.cellsOf 63 = 3 := by kernel_rfl
set_option maxRecDepth 100000 in
/-- An argument that is a join. -/
theorem arg_join {H : Type} {enc : TypeId × Value → H} {W : World} {base : Nat} {v : Value} {d : DataW H} {p : List MemPlace} (hv : Value.okWide Try.prog W .any base 63 v)
    (h : DataW.Trod enc Try.prog W 0 (fun _ => true) true 63 v d p) : ∃ a n c b m e mk, v = .agg #[.slice a n c, .slice b m e, .int .i64 mk] ∧ Is64 mk ∧ ∃ l r : List Fm, n = l.length ∧ m = r.length ∧ Fms W W.heap.size a c l ∧ Fms W W.heap.size b e r := by
  obtain ⟨v0, v1, v2, y0, y1, y2, n, rfl, _, _, h0, h1, h2⟩ := open_agg3 Try.underlying63 (by kernel_rfl) cellsJoin hv h
  obtain ⟨mk, e2, w2⟩ := DataW.trod_int Try.underlying3 h2
  simp at e2
  subst e2
  have hs : ∃ a m c, v0 = .slice a m c := by
    rcases DataW.trod_slice Try.underlying41 h0 with ⟨hcs, _⟩ | ⟨ad, len, cap, elems, rest, m, _, hcs, _⟩
    · simp at hcs; exact ⟨_, _, _, hcs⟩
    · simp at hcs; exact ⟨_, _, _, hcs⟩
  have hs1 : ∃ a m c, v1 = .slice a m c := by
    rcases DataW.trod_slice Try.underlying41 h1 with ⟨hcs, _⟩ | ⟨ad, len, cap, elems, rest, m, _, hcs, _⟩
    · simp at hcs; exact ⟨_, _, _, hcs⟩
    · simp at hcs; exact ⟨_, _, _, hcs⟩
  obtain ⟨a, m, c, rfl⟩ := hs
  obtain ⟨b, m2, c2, rfl⟩ := hs1
  obtain ⟨l, hn, hN⟩ := frames_cells h0
  obtain ⟨r, hn2, hN2⟩ := frames_cells h1
  exact ⟨a, m, c, b, m2, c2, mk, rfl, i64_wf w2.2, l, r, hn, hn2, hN, hN2⟩
end Go.Proofs.Ytneolndbhklboaa
