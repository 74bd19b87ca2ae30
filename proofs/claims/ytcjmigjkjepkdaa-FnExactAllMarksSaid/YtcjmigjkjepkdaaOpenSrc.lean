/- What an argument that is a source is as a value, out of its reading. -/
import Derived.Test.YtcjmigjkjepkdaaOpenRing
namespace Go.Proofs.Ytcjmigjkjepkdaa
open Go.ChangeShapes Go.WideShapes Go.ChangeAt Go.RowKit Go.Joins

theorem array5_ {α : Type} {cs : Array α} (h : cs.size = 5) : ∃ c0 c1 c2 c3 c4, cs = #[c0, c1, c2, c3, c4] := by
  obtain ⟨l⟩ := cs
  match l, h with
  | [c0, c1, c2, c3, c4], _ => exact ⟨c0, c1, c2, c3, c4, rfl⟩

theorem cellsSource : Try.prog.cellsOf 63 = 5 := by kernel_rfl
set_option maxRecDepth 100000 in
/-- The cells of a source. -/
theorem source_cells {H : Type} {enc : TypeId × Value → H} {W : World} {held : Bool} {fuel : Nat} {x : DataW H × List MemPlace} {c0 c1 c2 c3 c4 : Value}
    (hf : DataW.trod enc Try.prog W 0 (fun _ => true) held fuel 63 [c0, c1, c2, c3, c4] = some x) : ∃ (x m s : Int) (i o : Bool), c0 = .int .i64 x ∧ c1 = .int .i64 m ∧ c2 = .int .i64 s ∧ c3 = .bool i ∧ c4 = .bool o := by
  obtain ⟨xs, n, _, rfl, _, hlen, hf⟩ := DataW.trod_struct Try.underlying63 hf
  obtain ⟨y0, y1, y2, y3, y4, rfl⟩ : ∃ y0 y1 y2 y3 y4, xs = [y0, y1, y2, y3, y4] := by
    match xs, hlen with
    | [y0, y1, y2, y3, y4], _ => exact ⟨y0, y1, y2, y3, y4, rfl⟩
  have h0 := hf 0 _ rfl
  have h1 := hf 1 _ rfl
  have h2 := hf 2 _ rfl
  have h3 := hf 3 _ rfl
  have h4 := hf 4 _ rfl
  have ki : Try.prog.cellsOf 3 = 1 := by kernel_rfl
  have kb : Try.prog.cellsOf 4 = 1 := by kernel_rfl
  simp [ki, kb] at h0 h1 h2 h3 h4
  obtain ⟨x, e0, _⟩ := DataW.trod_int Try.underlying3 h0
  obtain ⟨m, e1, _⟩ := DataW.trod_int Try.underlying3 h1
  obtain ⟨s, e2, _⟩ := DataW.trod_int Try.underlying3 h2
  obtain ⟨i, e3, _⟩ := DataW.trod_bool Try.underlying4 h3
  obtain ⟨o, e4, _⟩ := DataW.trod_bool Try.underlying4 h4
  simp at e0 e1 e2 e3 e4
  exact ⟨x, m, s, i, o, e0, e1, e2, e3, e4⟩
set_option maxRecDepth 100000 in
/-- An argument that is a source. -/
theorem arg_source {H : Type} {enc : TypeId × Value → H} {W : World} {base : Nat} {v : Value} {d : DataW H} {p : List MemPlace} (hv : Value.okWide Try.prog W .any base 63 v)
    (h : DataW.Trod enc Try.prog W 0 (fun _ => true) true 63 v d p) : ∃ (x m s : Int) (i o : Bool), v = (.agg #[.int .i64 x, .int .i64 m, .int .i64 s, .bool i, .bool o]) := by
  obtain ⟨cs, rfl, hsz⟩ := okWide_struct Try.underlying63 hv
  obtain ⟨c0, c1, c2, c3, c4, rfl⟩ := array5_ (hsz.trans cellsSource)
  obtain ⟨fuel, hf⟩ := h
  obtain ⟨x, m, s, i, o, rfl, rfl, rfl, rfl, rfl⟩ := source_cells (by simpa [Value.cells] using hf)
  exact ⟨x, m, s, i, o, rfl⟩
end Go.Proofs.Ytcjmigjkjepkdaa
