/- What an argument that is a laws.Pair is as a value, out of its reading (made by mkopen.py). -/
import Derived.Test.YtneolndbhklboabDoorOpenBase
import Derived.Test.YtneolndbhklboabDoorPairS
namespace Go.Proofs.YtneolndbhklboabDoor
open Go.ChangeShapes Go.WideShapes Go.ChangeAt Go.RowKit Go.Joins Go.Deep

theorem cellsPairW : Tryd.prog.cellsOf 23 = 5 := by kernel_rfl
set_option maxRecDepth 100000 in
theorem pairW_cells {H : Type} {enc : TypeId × Value → H} {W : World} {held : Bool} {fuel : Nat} {x : DataW H × List MemPlace} {c0 c1 c2 c3 c4 : Value}
    (hf : DataW.trod enc Tryd.prog W 0 (fun _ => true) held fuel 23 [c0, c1, c2, c3, c4] = some x) : ∃ ky lt rt lv rv : Int, c0 = .int .i64 ky ∧ c1 = .int .i64 lt ∧ c2 = .int .i64 rt ∧ c3 = .int .i64 lv ∧ c4 = .int .i64 rv ∧ Is64 ky ∧ Is64 lt ∧ Is64 rt ∧ Is64 lv ∧ Is64 rv := by
  obtain ⟨xs, n, _, rfl, _, hlen, hf⟩ := DataW.trod_struct Tryd.underlying23 hf
  obtain ⟨y0, y1, y2, y3, y4, rfl⟩ : ∃ y0 y1 y2 y3 y4, xs = [y0, y1, y2, y3, y4] := by
    match xs, hlen with
    | [y0, y1, y2, y3, y4], _ => exact ⟨y0, y1, y2, y3, y4, rfl⟩
  have h0 := hf 0 _ rfl
  have h1 := hf 1 _ rfl
  have h2 := hf 2 _ rfl
  have h3 := hf 3 _ rfl
  have h4 := hf 4 _ rfl
  have ki : Tryd.prog.cellsOf 3 = 1 := by kernel_rfl
  simp [ki] at h0 h1 h2 h3 h4
  obtain ⟨ky, e0, w0⟩ := DataW.trod_int Tryd.underlying3 h0
  obtain ⟨lt, e1, w1⟩ := DataW.trod_int Tryd.underlying3 h1
  obtain ⟨rt, e2, w2⟩ := DataW.trod_int Tryd.underlying3 h2
  obtain ⟨lv, e3, w3⟩ := DataW.trod_int Tryd.underlying3 h3
  obtain ⟨rv, e4, w4⟩ := DataW.trod_int Tryd.underlying3 h4
  simp at e0 e1 e2 e3 e4
  exact ⟨ky, lt, rt, lv, rv, e0, e1, e2, e3, e4, i64_wf w0.2, i64_wf w1.2, i64_wf w2.2, i64_wf w3.2, i64_wf w4.2⟩
set_option maxRecDepth 100000 in
theorem arg_pairW {H : Type} {enc : TypeId × Value → H} {W : World} {base : Nat} {v : Value} {d : DataW H} {p : List MemPlace} (hv : Value.okWide Tryd.prog W .any base 23 v)
    (h : DataW.Trod enc Tryd.prog W 0 (fun _ => true) true 23 v d p) : ∃ ky lt rt lv rv : Int, v = (.agg #[.int .i64 ky, .int .i64 lt, .int .i64 rt, .int .i64 lv, .int .i64 rv]) ∧ Is64 ky ∧ Is64 lt ∧ Is64 rt ∧ Is64 lv ∧ Is64 rv := by
  obtain ⟨cs, rfl, hsz⟩ := okWide_struct Tryd.underlying23 hv
  rw [cellsPairW] at hsz
  obtain ⟨l⟩ := cs
  obtain ⟨c0, c1, c2, c3, c4, rfl⟩ : ∃ c0 c1 c2 c3 c4, l = [c0, c1, c2, c3, c4] := by
    match l, hsz with
    | [c0, c1, c2, c3, c4], _ => exact ⟨c0, c1, c2, c3, c4, rfl⟩
  obtain ⟨fuel, hf⟩ := h
  obtain ⟨ky, lt, rt, lv, rv, rfl, rfl, rfl, rfl, rfl, g0, g1, g2, g3, g4⟩ := pairW_cells (by simpa [Value.cells] using hf)
  exact ⟨ky, lt, rt, lv, rv, rfl, g0, g1, g2, g3, g4⟩
end Go.Proofs.YtneolndbhklboabDoor
