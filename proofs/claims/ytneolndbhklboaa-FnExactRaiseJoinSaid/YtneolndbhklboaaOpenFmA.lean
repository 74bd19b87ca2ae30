/- What an argument that is a laws.Frame is as a value, out of its reading (made by mkopen.py). -/
import Derived.Test.YtneolndbhklboaaOpenBase
import Derived.Test.YtneolndbhklboaaFmRow
namespace Go.Proofs.Ytneolndbhklboaa
open Go.ChangeShapes Go.WideShapes Go.ChangeAt Go.RowKit Go.Joins Go.Deep

theorem cellsFrame : Try.prog.cellsOf 72 = 4 := by kernel_rfl
set_option maxRecDepth 100000 in
theorem frame_cells {H : Type} {enc : TypeId × Value → H} {W : World} {held : Bool} {fuel : Nat} {x : DataW H × List MemPlace} {c0 c1 c2 c3 : Value}
    (hf : DataW.trod enc Try.prog W 0 (fun _ => true) held fuel 72 [c0, c1, c2, c3] = some x) : ∃ k y t u : Int, c0 = .int .i64 k ∧ c1 = .int .i64 y ∧ c2 = .int .i64 t ∧ c3 = .int .i64 u := by
  obtain ⟨xs, n, _, rfl, _, hlen, hf⟩ := DataW.trod_struct Try.underlying72 hf
  obtain ⟨y0, y1, y2, y3, rfl⟩ : ∃ y0 y1 y2 y3, xs = [y0, y1, y2, y3] := by
    match xs, hlen with
    | [y0, y1, y2, y3], _ => exact ⟨y0, y1, y2, y3, rfl⟩
  have h0 := hf 0 _ rfl
  have h1 := hf 1 _ rfl
  have h2 := hf 2 _ rfl
  have h3 := hf 3 _ rfl
  have ki : Try.prog.cellsOf 3 = 1 := by kernel_rfl
  simp [ki] at h0 h1 h2 h3
  obtain ⟨k, e0, _⟩ := DataW.trod_int Try.underlying3 h0
  obtain ⟨y, e1, _⟩ := DataW.trod_int Try.underlying3 h1
  obtain ⟨t, e2, _⟩ := DataW.trod_int Try.underlying3 h2
  obtain ⟨u, e3, _⟩ := DataW.trod_int Try.underlying3 h3
  simp at e0 e1 e2 e3
  exact ⟨k, y, t, u, e0, e1, e2, e3⟩
set_option maxRecDepth 100000 in
theorem arg_frame {H : Type} {enc : TypeId × Value → H} {W : World} {base : Nat} {v : Value} {d : DataW H} {p : List MemPlace} (hv : Value.okWide Try.prog W .any base 72 v)
    (h : DataW.Trod enc Try.prog W 0 (fun _ => true) true 72 v d p) : ∃ k y t u : Int, v = (.agg #[.int .i64 k, .int .i64 y, .int .i64 t, .int .i64 u]) := by
  obtain ⟨cs, rfl, hsz⟩ := okWide_struct Try.underlying72 hv
  rw [cellsFrame] at hsz
  obtain ⟨l⟩ := cs
  obtain ⟨c0, c1, c2, c3, rfl⟩ : ∃ c0 c1 c2 c3, l = [c0, c1, c2, c3] := by
    match l, hsz with
    | [c0, c1, c2, c3], _ => exact ⟨c0, c1, c2, c3, rfl⟩
  obtain ⟨fuel, hf⟩ := h
  obtain ⟨k, y, t, u, rfl, rfl, rfl, rfl⟩ := frame_cells (by simpa [Value.cells] using hf)
  exact ⟨k, y, t, u, rfl⟩
instance : Inhabited Fm := ⟨qD⟩
set_option maxRecDepth 100000 in
/-- The cell of a slice of them. -/
theorem frames_cells {H : Type} {enc : TypeId × Value → H} {W : World} {held : Bool} {fuel : Nat} {x : DataW H × List MemPlace} {a : Option Addr} {n c : Nat}
    (hf : DataW.trod enc Try.prog W 0 (fun _ => true) held fuel 41 [.slice a n c] = some x) : ∃ l : List Fm, n = l.length ∧ Fms W W.heap.size a c l := by
  rcases DataW.trod_slice Try.underlying41 hf with ⟨hcs, _⟩ | ⟨ad, len, cap, elems, rest, m, _, hcs, _, _, hlc, hm, hlen, hel, _⟩
  · simp at hcs
    obtain ⟨rfl, rfl, rfl⟩ := hcs
    exact ⟨[], rfl, Recs.none_ _ _⟩
  · simp at hcs
    obtain ⟨rfl, rfl, rfl⟩ := hcs
    unfold maxLen at hm
    rw [cellsFrame] at hel
    have each : ∀ i, i < n → ∃ S : Fm, ∀ q, q < 4 → W.cell? ((ad.add (i * 4)).add q) = (qC S)[q]? := by
      intro i hi
      have h1 := hel i hi
      rw [List.getElem?_eq_getElem (by omega)] at h1
      obtain ⟨cs, hc1, hc2⟩ := Option.bind_eq_some_iff.1 h1
      obtain ⟨_, hl5, hat⟩ := World.cells?_some hc1
      obtain ⟨c0, c1, c2, c3, rfl⟩ : ∃ c0 c1 c2 c3, cs = [c0, c1, c2, c3] := by
        match cs, hl5 with
        | [c0, c1, c2, c3], _ => exact ⟨c0, c1, c2, c3, rfl⟩
      obtain ⟨k, y, t, u, rfl, rfl, rfl, rfl⟩ := frame_cells hc2
      exact ⟨⟨k, y, t, u⟩, fun q hq => hat q hq⟩
    obtain ⟨S, hS⟩ := choose_lt each
    have hl : ((List.range n).map S).length = n := by simp
    refine ⟨(List.range n).map S, hl.symm, by rw [hl]; exact hlc, by omega, ?_⟩
    by_cases h0 : n = 0
    · subst h0; exact .inl (by simp)
    · have h00 := hS 0 (by omega) 0 (by omega)
      have hspot : ad.spot = none := by
        have := World.cell?_spot h00
        simpa [Addr.add] using this
      obtain ⟨b, off, spot⟩ := ad
      simp only at hspot
      subst hspot
      have hlt := block_lt_of_cell h00
      refine .inr ⟨b, off, rfl, by simpa [Addr.add] using hlt, fun i hi q hq => ?_⟩
      rw [hl] at hi
      have hg : rel qD ((List.range n).map S) i = S i := by simp [rel, List.getD, hi]
      rw [hg]
      have k := hS i hi q hq
      simp only [addr_add_] at k
      exact k
set_option maxRecDepth 100000 in
theorem arg_fms {H : Type} {enc : TypeId × Value → H} {W : World} {base : Nat} {v : Value} {d : DataW H} {p : List MemPlace} (hv : Value.okWide Try.prog W .any base 41 v)
    (h : DataW.Trod enc Try.prog W 0 (fun _ => true) true 41 v d p) : ∃ a n c, v = .slice a n c ∧ ∃ l : List Fm, n = l.length ∧ Fms W W.heap.size a c l := by
  obtain ⟨a, n, c, rfl⟩ := okWide_slice Try.underlying41 hv
  obtain ⟨fuel, hf⟩ := h
  exact ⟨a, n, c, rfl, frames_cells (by simpa [Value.cells] using hf)⟩
end Go.Proofs.Ytneolndbhklboaa
