/- What an argument that is a laws.Session is as a value, out of its reading (made by mkopen.py). -/
import Derived.Test.YtchbmnpajnlijaaDoorOpenBase
import Derived.Test.YtchbmnpajnlijaaDoorSessionS
namespace Go.Proofs.YtchbmnpajnlijaaDoor
open Go.ChangeShapes Go.WideShapes Go.ChangeAt Go.RowKit Go.Joins Go.Deep

theorem cellsSession : Tryd.prog.cellsOf 23 = 5 := by kernel_rfl
set_option maxRecDepth 100000 in
theorem session_cells {H : Type} {enc : TypeId × Value → H} {W : World} {held : Bool} {fuel : Nat} {x : DataW H × List MemPlace} {c0 c1 c2 c3 c4 : Value}
    (hf : DataW.trod enc Tryd.prog W 0 (fun _ => true) held fuel 23 [c0, c1, c2, c3, c4] = some x) : ∃ ky fr tt ct sm : Int, c0 = .int .i64 ky ∧ c1 = .int .i64 fr ∧ c2 = .int .i64 tt ∧ c3 = .int .i64 ct ∧ c4 = .int .i64 sm := by
  obtain ⟨xs, n, _, rfl, _, hlen, hf⟩ := DataW.trod_struct Tryd.underlying23 hf
  obtain ⟨y0, y1, y2, y3, y4, rfl⟩ : ∃ y0 y1 y2 y3 y4, xs = [y0, y1, y2, y3, y4] := by
    match xs, hlen with
    | [y0, y1, y2, y3, y4], _ => exact ⟨y0, y1, y2, y3, y4, rfl⟩
  have h0 := hf 0 _ rfl
  have h1 := hf 1 _ rfl
  have h2 := hf 2 _ rfl
  have h3 := hf 3 _ rfl
  have h4 := hf 4 _ rfl
  have ki : Tryd.prog.cellsOf 3 = 1 := by kernel_rfl
  simp [ki] at h0 h1 h2 h3 h4
  obtain ⟨ky, e0, _⟩ := DataW.trod_int Tryd.underlying3 h0
  obtain ⟨fr, e1, _⟩ := DataW.trod_int Tryd.underlying3 h1
  obtain ⟨tt, e2, _⟩ := DataW.trod_int Tryd.underlying3 h2
  obtain ⟨ct, e3, _⟩ := DataW.trod_int Tryd.underlying3 h3
  obtain ⟨sm, e4, _⟩ := DataW.trod_int Tryd.underlying3 h4
  simp at e0 e1 e2 e3 e4
  exact ⟨ky, fr, tt, ct, sm, e0, e1, e2, e3, e4⟩
set_option maxRecDepth 100000 in
theorem arg_session {H : Type} {enc : TypeId × Value → H} {W : World} {base : Nat} {v : Value} {d : DataW H} {p : List MemPlace} (hv : Value.okWide Tryd.prog W .any base 23 v)
    (h : DataW.Trod enc Tryd.prog W 0 (fun _ => true) true 23 v d p) : ∃ ky fr tt ct sm : Int, v = (.agg #[.int .i64 ky, .int .i64 fr, .int .i64 tt, .int .i64 ct, .int .i64 sm]) := by
  obtain ⟨cs, rfl, hsz⟩ := okWide_struct Tryd.underlying23 hv
  rw [cellsSession] at hsz
  obtain ⟨l⟩ := cs
  obtain ⟨c0, c1, c2, c3, c4, rfl⟩ : ∃ c0 c1 c2 c3 c4, l = [c0, c1, c2, c3, c4] := by
    match l, hsz with
    | [c0, c1, c2, c3, c4], _ => exact ⟨c0, c1, c2, c3, c4, rfl⟩
  obtain ⟨fuel, hf⟩ := h
  obtain ⟨ky, fr, tt, ct, sm, rfl, rfl, rfl, rfl, rfl⟩ := session_cells (by simpa [Value.cells] using hf)
  exact ⟨ky, fr, tt, ct, sm, rfl⟩
end Go.Proofs.YtchbmnpajnlijaaDoor
