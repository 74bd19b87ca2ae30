/- What an argument that is a laws.Pair is as a value, out of its reading (made by mkopen.py). -/
import Derived.Test.YtneolndbhklboaaOpenBase
import Derived.Test.YtneolndbhklboaaPairS
namespace Go.Proofs.Ytneolndbhklboaa
open Go.ChangeShapes Go.WideShapes Go.ChangeAt Go.RowKit Go.Joins Go.Deep

theorem cellsPair : Try.prog.cellsOf 51 = 5 := by kernel_rfl
set_option maxRecDepth 100000 in
theorem pair_cells {H : Type} {enc : TypeId × Value → H} {W : World} {held : Bool} {fuel : Nat} {x : DataW H × List MemPlace} {c0 c1 c2 c3 c4 : Value}
    (hf : DataW.trod enc Try.prog W 0 (fun _ => true) held fuel 51 [c0, c1, c2, c3, c4] = some x) : ∃ ky lt rt lv rv : Int, c0 = .int .i64 ky ∧ c1 = .int .i64 lt ∧ c2 = .int .i64 rt ∧ c3 = .int .i64 lv ∧ c4 = .int .i64 rv := by
  obtain ⟨xs, n, _, rfl, _, hlen, hf⟩ := DataW.trod_struct Try.underlying51 hf
  obtain ⟨y0, y1, y2, y3, y4, rfl⟩ : ∃ y0 y1 y2 y3 y4, xs = [y0, y1, y2, y3, y4] := by
    match xs, hlen with
    | [y0, y1, y2, y3, y4], _ => exact ⟨y0, y1, y2, y3, y4, rfl⟩
  have h0 := hf 0 _ rfl
  have h1 := hf 1 _ rfl
  have h2 := hf 2 _ rfl
  have h3 := hf 3 _ rfl
  have h4 := hf 4 _ rfl
  have ki : Try.prog.cellsOf 3 = 1 := by kernel_rfl
  simp [ki] at h0 h1 h2 h3 h4
  obtain ⟨ky, e0, _⟩ := DataW.trod_int Try.underlying3 h0
  obtain ⟨lt, e1, _⟩ := DataW.trod_int Try.underlying3 h1
  obtain ⟨rt, e2, _⟩ := DataW.trod_int Try.underlying3 h2
  obtain ⟨lv, e3, _⟩ := DataW.trod_int Try.underlying3 h3
  obtain ⟨rv, e4, _⟩ := DataW.trod_int Try.underlying3 h4
  simp at e0 e1 e2 e3 e4
  exact ⟨ky, lt, rt, lv, rv, e0, e1, e2, e3, e4⟩
set_option maxRecDepth 100000 in
theorem arg_pair {H : Type} {enc : TypeId × Value → H} {W : World} {base : Nat} {v : Value} {d : DataW H} {p : List MemPlace} (hv : Value.okWide Try.prog W .any base 51 v)
    (h : DataW.Trod enc Try.prog W 0 (fun _ => true) true 51 v d p) : ∃ ky lt rt lv rv : Int, v = (.agg #[.int .i64 ky, .int .i64 lt, .int .i64 rt, .int .i64 lv, .int .i64 rv]) := by
  obtain ⟨cs, rfl, hsz⟩ := okWide_struct Try.underlying51 hv
  rw [cellsPair] at hsz
  obtain ⟨l⟩ := cs
  obtain ⟨c0, c1, c2, c3, c4, rfl⟩ : ∃ c0 c1 c2 c3 c4, l = [c0, c1, c2, c3, c4] := by
    match l, hsz with
    | [c0, c1, c2, c3, c4], _ => exact ⟨c0, c1, c2, c3, c4, rfl⟩
  obtain ⟨fuel, hf⟩ := h
  obtain ⟨ky, lt, rt, lv, rv, rfl, rfl, rfl, rfl, rfl⟩ := pair_cells (by simpa [Value.cells] using hf)
  exact ⟨ky, lt, rt, lv, rv, rfl⟩
instance : Inhabited Pr := ⟨gD⟩
set_option maxRecDepth 100000 in
/-- The cell of a slice of them. -/
theorem pairs_cells {H : Type} {enc : TypeId × Value → H} {W : World} {held : Bool} {fuel : Nat} {x : DataW H × List MemPlace} {a : Option Addr} {n c : Nat}
    (hf : DataW.trod enc Try.prog W 0 (fun _ => true) held fuel 56 [.slice a n c] = some x) : ∃ l : List Pr, n = l.length ∧ Prs W W.heap.size a c l := by
  rcases DataW.trod_slice Try.underlying56 hf with ⟨hcs, _⟩ | ⟨ad, len, cap, elems, rest, m, _, hcs, _, _, hlc, hm, hlen, hel, _⟩
  · simp at hcs
    obtain ⟨rfl, rfl, rfl⟩ := hcs
    exact ⟨[], rfl, Recs.none_ _ _⟩
  · simp at hcs
    obtain ⟨rfl, rfl, rfl⟩ := hcs
    unfold maxLen at hm
    rw [cellsPair] at hel
    have each : ∀ i, i < n → ∃ S : Pr, ∀ q, q < 5 → W.cell? ((ad.add (i * 5)).add q) = (gC S)[q]? := by
      intro i hi
      have h1 := hel i hi
      rw [List.getElem?_eq_getElem (by omega)] at h1
      obtain ⟨cs, hc1, hc2⟩ := Option.bind_eq_some_iff.1 h1
      obtain ⟨_, hl5, hat⟩ := World.cells?_some hc1
      obtain ⟨c0, c1, c2, c3, c4, rfl⟩ : ∃ c0 c1 c2 c3 c4, cs = [c0, c1, c2, c3, c4] := by
        match cs, hl5 with
        | [c0, c1, c2, c3, c4], _ => exact ⟨c0, c1, c2, c3, c4, rfl⟩
      obtain ⟨ky, lt, rt, lv, rv, rfl, rfl, rfl, rfl, rfl⟩ := pair_cells hc2
      exact ⟨⟨ky, lt, rt, lv, rv⟩, fun q hq => hat q hq⟩
    obtain ⟨S, hS⟩ := choose_lt each
    have hl : ((List.range n).map S).length = n := by simp
    refine ⟨(List.range n).map S, hl.symm, by rw [hl]; exact hlc, by omega, ?_⟩
    by_cases h0 : n = 0
    · subst h0; exact .inl (by simp)
    · have h00 := hS 0 (by omega) 0 (by omega)
      have hspot : ad.spot = none := by
        have := World.cell?_spot h00
        simpa [Addr.add] using this
      obtain ⟨b, off, spot⟩ := ad
      simp only at hspot
      subst hspot
      have hlt := block_lt_of_cell h00
      refine .inr ⟨b, off, rfl, by simpa [Addr.add] using hlt, fun i hi q hq => ?_⟩
      rw [hl] at hi
      have hg : rel gD ((List.range n).map S) i = S i := by simp [rel, List.getD, hi]
      rw [hg]
      have k := hS i hi q hq
      simp only [addr_add_] at k
      exact k
set_option maxRecDepth 100000 in
theorem arg_pairs {H : Type} {enc : TypeId × Value → H} {W : World} {base : Nat} {v : Value} {d : DataW H} {p : List MemPlace} (hv : Value.okWide Try.prog W .any base 56 v)
    (h : DataW.Trod enc Try.prog W 0 (fun _ => true) true 56 v d p) : ∃ a n c, v = .slice a n c ∧ ∃ l : List Pr, n = l.length ∧ Prs W W.heap.size a c l := by
  obtain ⟨a, n, c, rfl⟩ := okWide_slice Try.underlying56 hv
  obtain ⟨fuel, hf⟩ := h
  exact ⟨a, n, c, rfl, pairs_cells (by simpa [Value.cells] using hf)⟩
end Go.Proofs.Ytneolndbhklboaa
