/- What an argument that is a laws.Setup is as a value, out of its reading (made by mkopen.py). -/
import Derived.Test.YtnfhlfbkdhpacaaDoorOpenBase
import Derived.Test.YtnfhlfbkdhpacaaDoorSetup1
namespace Go.Proofs.YtnfhlfbkdhpacaaDoor
open Go.ChangeShapes Go.WideShapes Go.ChangeAt Go.RowKit Go.Joins Go.Deep

theorem cellsSetup : Tryd.prog.cellsOf 38 = 9 := by kernel_rfl
set_option maxRecDepth 100000 in
theorem setup_cells {H : Type} {enc : TypeId × Value → H} {W : World} {held : Bool} {fuel : Nat} {x : DataW H × List MemPlace} {c0 c1 c2 c3 c4 c5 c6 c7 c8 : Value}
    (hf : DataW.trod enc Tryd.prog W 0 (fun _ => true) held fuel 38 [c0, c1, c2, c3, c4, c5, c6, c7, c8] = some x) : ∃ f0 f1 f2 f3 f4 f5 f6 f7 f8 : Int, c0 = .int .i64 f0 ∧ c1 = .int .i64 f1 ∧ c2 = .int .i64 f2 ∧ c3 = .int .i64 f3 ∧ c4 = .int .i64 f4 ∧ c5 = .int .i64 f5 ∧ c6 = .int .i64 f6 ∧ c7 = .int .i64 f7 ∧ c8 = .int .i64 f8 := by
  obtain ⟨xs, n, _, rfl, _, hlen, hf⟩ := DataW.trod_struct Tryd.underlying38 hf
  obtain ⟨y0, y1, y2, y3, y4, y5, y6, y7, y8, rfl⟩ : ∃ y0 y1 y2 y3 y4 y5 y6 y7 y8, xs = [y0, y1, y2, y3, y4, y5, y6, y7, y8] := by
    match xs, hlen with
    | [y0, y1, y2, y3, y4, y5, y6, y7, y8], _ => exact ⟨y0, y1, y2, y3, y4, y5, y6, y7, y8, rfl⟩
  have h0 := hf 0 _ rfl
  have h1 := hf 1 _ rfl
  have h2 := hf 2 _ rfl
  have h3 := hf 3 _ rfl
  have h4 := hf 4 _ rfl
  have h5 := hf 5 _ rfl
  have h6 := hf 6 _ rfl
  have h7 := hf 7 _ rfl
  have h8 := hf 8 _ rfl
  have ki : Tryd.prog.cellsOf 3 = 1 := by kernel_rfl
  simp [ki] at h0 h1 h2 h3 h4 h5 h6 h7 h8
  obtain ⟨f0, e0, _⟩ := DataW.trod_int Tryd.underlying3 h0
  obtain ⟨f1, e1, _⟩ := DataW.trod_int Tryd.underlying3 h1
  obtain ⟨f2, e2, _⟩ := DataW.trod_int Tryd.underlying3 h2
  obtain ⟨f3, e3, _⟩ := DataW.trod_int Tryd.underlying3 h3
  obtain ⟨f4, e4, _⟩ := DataW.trod_int Tryd.underlying3 h4
  obtain ⟨f5, e5, _⟩ := DataW.trod_int Tryd.underlying3 h5
  obtain ⟨f6, e6, _⟩ := DataW.trod_int Tryd.underlying3 h6
  obtain ⟨f7, e7, _⟩ := DataW.trod_int Tryd.underlying3 h7
  obtain ⟨f8, e8, _⟩ := DataW.trod_int Tryd.underlying3 h8
  simp at e0 e1 e2 e3 e4 e5 e6 e7 e8
  exact ⟨f0, f1, f2, f3, f4, f5, f6, f7, f8, e0, e1, e2, e3, e4, e5, e6, e7, e8⟩
set_option maxRecDepth 100000 in
theorem arg_setup {H : Type} {enc : TypeId × Value → H} {W : World} {base : Nat} {v : Value} {d : DataW H} {p : List MemPlace} (hv : Value.okWide Tryd.prog W .any base 38 v)
    (h : DataW.Trod enc Tryd.prog W 0 (fun _ => true) true 38 v d p) : ∃ f0 f1 f2 f3 f4 f5 f6 f7 f8 : Int, v = (.agg #[.int .i64 f0, .int .i64 f1, .int .i64 f2, .int .i64 f3, .int .i64 f4, .int .i64 f5, .int .i64 f6, .int .i64 f7, .int .i64 f8]) := by
  obtain ⟨cs, rfl, hsz⟩ := okWide_struct Tryd.underlying38 hv
  rw [cellsSetup] at hsz
  obtain ⟨l⟩ := cs
  obtain ⟨c0, c1, c2, c3, c4, c5, c6, c7, c8, rfl⟩ : ∃ c0 c1 c2 c3 c4 c5 c6 c7 c8, l = [c0, c1, c2, c3, c4, c5, c6, c7, c8] := by
    match l, hsz with
    | [c0, c1, c2, c3, c4, c5, c6, c7, c8], _ => exact ⟨c0, c1, c2, c3, c4, c5, c6, c7, c8, rfl⟩
  obtain ⟨fuel, hf⟩ := h
  obtain ⟨f0, f1, f2, f3, f4, f5, f6, f7, f8, rfl, rfl, rfl, rfl, rfl, rfl, rfl, rfl, rfl⟩ := setup_cells (by simpa [Value.cells] using hf)
  exact ⟨f0, f1, f2, f3, f4, f5, f6, f7, f8, rfl⟩
end Go.Proofs.YtnfhlfbkdhpacaaDoor
