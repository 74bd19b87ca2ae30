/- What an argument that is a shard is as a value, out of its reading. -/
import Derived.Test.YtnfhlfbkdhpacaaOpenAgg
namespace Go.Proofs.Ytnfhlfbkdhpacaa
open Go.ChangeShapes Go.WideShapes Go.ChangeAt Go.RowKit Go.Joins Go.Deep

theorem cellsShard : Try.prog.cellsOf 24 = 4 := by kernel_rfl
set_option maxRecDepth 100000 in
/-- An argument that is a shard. -/
theorem arg_shard {H : Type} {enc : TypeId × Value → H} {W : World} {base : Nat} {v : Value} {d : DataW H} {p : List MemPlace} (hv : Value.okWide Try.prog W .any base 24 v)
    (h : DataW.Trod enc Try.prog W 0 (fun _ => true) true 24 v d p) : ∃ a n c mk lt ov, v = .agg #[.slice a n c, .int .i64 mk, .int .i64 lt, .int .i64 ov] ∧ Is64 mk ∧ Is64 lt ∧ Is64 ov ∧ ∃ l : List Ag, n = l.length ∧ Ags W W.heap.size a c l := by
  obtain ⟨v0, v1, v2, v3, y0, y1, y2, y3, n, rfl, _, _, h0, h1, h2, h3⟩ := open_agg4 Try.underlying24 (by kernel_rfl) cellsShard hv h
  obtain ⟨mk, e1, w1⟩ := DataW.trod_int Try.underlying3 h1
  obtain ⟨lt, e2, w2⟩ := DataW.trod_int Try.underlying3 h2
  obtain ⟨ov, e3, w3⟩ := DataW.trod_int Try.underlying3 h3
  simp at e1 e2 e3
  subst e1 e2 e3
  have hs : ∃ a m c, v0 = .slice a m c := by
    rcases DataW.trod_slice Try.underlying22 h0 with ⟨hcs, _⟩ | ⟨ad, len, cap, elems, rest, m, _, hcs, _⟩
    · simp at hcs; exact ⟨_, _, _, hcs⟩
    · simp at hcs; exact ⟨_, _, _, hcs⟩
  obtain ⟨a, m, c, rfl⟩ := hs
  obtain ⟨l, hn, hN⟩ := aggs_cells h0
  exact ⟨a, m, c, mk, lt, ov, rfl, i64_wf w1.2, i64_wf w2.2, i64_wf w3.2, l, hn, hN⟩
end Go.Proofs.Ytnfhlfbkdhpacaa
