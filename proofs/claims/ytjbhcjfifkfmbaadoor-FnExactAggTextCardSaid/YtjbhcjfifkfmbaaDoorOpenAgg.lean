/- What an argument that is a laws.Agg is as a value, out of its reading (made by mkopen.py). -/
import Derived.Test.YtjbhcjfifkfmbaaDoorOpenBase
import Derived.Test.YtjbhcjfifkfmbaaDoorAggS
namespace Go.Proofs.YtjbhcjfifkfmbaaDoor
open Go.ChangeShapes Go.WideShapes Go.ChangeAt Go.RowKit Go.Joins Go.Deep

theorem cellsAgg : Tryd.prog.cellsOf 23 = 6 := by kernel_rfl
set_option maxRecDepth 100000 in
theorem agg_cells {H : Type} {enc : TypeId × Value → H} {W : World} {held : Bool} {fuel : Nat} {x : DataW H × List MemPlace} {c0 c1 c2 c3 c4 c5 : Value}
    (hf : DataW.trod enc Tryd.prog W 0 (fun _ => true) held fuel 23 [c0, c1, c2, c3, c4, c5] = some x) : ∃ win key cnt sum mn mx : Int, c0 = .int .i64 win ∧ c1 = .int .i64 key ∧ c2 = .int .i64 cnt ∧ c3 = .int .i64 sum ∧ c4 = .int .i64 mn ∧ c5 = .int .i64 mx := by
  obtain ⟨xs, n, _, rfl, _, hlen, hf⟩ := DataW.trod_struct Tryd.underlying23 hf
  obtain ⟨y0, y1, y2, y3, y4, y5, rfl⟩ : ∃ y0 y1 y2 y3 y4 y5, xs = [y0, y1, y2, y3, y4, y5] := by
    match xs, hlen with
    | [y0, y1, y2, y3, y4, y5], _ => exact ⟨y0, y1, y2, y3, y4, y5, rfl⟩
  have h0 := hf 0 _ rfl
  have h1 := hf 1 _ rfl
  have h2 := hf 2 _ rfl
  have h3 := hf 3 _ rfl
  have h4 := hf 4 _ rfl
  have h5 := hf 5 _ rfl
  have ki : Tryd.prog.cellsOf 3 = 1 := by kernel_rfl
  simp [ki] at h0 h1 h2 h3 h4 h5
  obtain ⟨win, e0, _⟩ := DataW.trod_int Tryd.underlying3 h0
  obtain ⟨key, e1, _⟩ := DataW.trod_int Tryd.underlying3 h1
  obtain ⟨cnt, e2, _⟩ := DataW.trod_int Tryd.underlying3 h2
  obtain ⟨sum, e3, _⟩ := DataW.trod_int Tryd.underlying3 h3
  obtain ⟨mn, e4, _⟩ := DataW.trod_int Tryd.underlying3 h4
  obtain ⟨mx, e5, _⟩ := DataW.trod_int Tryd.underlying3 h5
  simp at e0 e1 e2 e3 e4 e5
  exact ⟨win, key, cnt, sum, mn, mx, e0, e1, e2, e3, e4, e5⟩
set_option maxRecDepth 100000 in
theorem arg_agg {H : Type} {enc : TypeId × Value → H} {W : World} {base : Nat} {v : Value} {d : DataW H} {p : List MemPlace} (hv : Value.okWide Tryd.prog W .any base 23 v)
    (h : DataW.Trod enc Tryd.prog W 0 (fun _ => true) true 23 v d p) : ∃ win key cnt sum mn mx : Int, v = (.agg #[.int .i64 win, .int .i64 key, .int .i64 cnt, .int .i64 sum, .int .i64 mn, .int .i64 mx]) := by
  obtain ⟨cs, rfl, hsz⟩ := okWide_struct Tryd.underlying23 hv
  rw [cellsAgg] at hsz
  obtain ⟨l⟩ := cs
  obtain ⟨c0, c1, c2, c3, c4, c5, rfl⟩ : ∃ c0 c1 c2 c3 c4 c5, l = [c0, c1, c2, c3, c4, c5] := by
    match l, hsz with
    | [c0, c1, c2, c3, c4, c5], _ => exact ⟨c0, c1, c2, c3, c4, c5, rfl⟩
  obtain ⟨fuel, hf⟩ := h
  obtain ⟨win, key, cnt, sum, mn, mx, rfl, rfl, rfl, rfl, rfl, rfl⟩ := agg_cells (by simpa [Value.cells] using hf)
  exact ⟨win, key, cnt, sum, mn, mx, rfl⟩
end Go.Proofs.YtjbhcjfifkfmbaaDoor
