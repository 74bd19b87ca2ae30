/- What an argument that is a slice of sources is as a value, out of its reading. -/
import Derived.Test.YtcjmigjkjepkdaaOpenSrc
import Derived.Test.YtcjmigjkjepkdaaOpenGrid
import Derived.Test.YtcjmigjkjepkdaaSrcsS
namespace Go.Proofs.Ytcjmigjkjepkdaa
open Go.ChangeShapes Go.WideShapes Go.ChangeAt Go.RowKit Go.Joins Go.Deep

instance : Inhabited Src := ⟨srD⟩
theorem addr_add_any {ad : Addr} (hs : ad.spot = none) (i : Nat) : ad.add i = ⟨ad.block, ad.off + i, none⟩ := by
  obtain ⟨b, off, spot⟩ := ad
  simp only at hs
  subst hs
  exact addr_add_
set_option maxRecDepth 100000 in
/-- An argument that is a slice of sources. -/
theorem arg_srcs {H : Type} {enc : TypeId × Value → H} {W : World} {base : Nat} {v : Value} {d : DataW H} {p : List MemPlace} (hv : Value.okWide Try.prog W .any base 38 v)
    (h : DataW.Trod enc Try.prog W 0 (fun _ => true) true 38 v d p) : ∃ a n c, v = .slice a n c ∧ ∃ l : List Src, n = l.length ∧ Srcs W W.heap.size a c l := by
  obtain ⟨a, n, c, rfl⟩ := okWide_slice Try.underlying38 hv
  obtain ⟨fuel, hf⟩ := h
  refine ⟨a, n, c, rfl, ?_⟩
  rcases DataW.trod_slice Try.underlying38 (by simpa [Value.cells] using hf) with ⟨hcs, _⟩ | ⟨ad, len, cap, elems, rest, m, _, hcs, _, _, hlc, hm, hlen, hel, _⟩
  · simp at hcs
    obtain ⟨rfl, rfl, rfl⟩ := hcs
    exact ⟨[], rfl, Srcs.none_ _ _⟩
  · simp at hcs
    obtain ⟨rfl, rfl, rfl⟩ := hcs
    unfold maxLen at hm
    rw [cellsSource] at hel
    have each : ∀ i, i < n → ∃ S : Src, ∀ q, q < 5 → W.cell? ((ad.add (i * 5)).add q) = [Value.int .i64 S.x, .int .i64 S.m, .int .i64 S.s, .bool S.i, .bool S.o][q]? := by
      intro i hi
      have h1 := hel i hi
      rw [List.getElem?_eq_getElem (by omega)] at h1
      obtain ⟨cs, hc1, hc2⟩ := Option.bind_eq_some_iff.1 h1
      obtain ⟨_, hl5, hat⟩ := World.cells?_some hc1
      obtain ⟨c0, c1, c2, c3, c4, rfl⟩ : ∃ c0 c1 c2 c3 c4, cs = [c0, c1, c2, c3, c4] := by
        match cs, hl5 with
        | [c0, c1, c2, c3, c4], _ => exact ⟨c0, c1, c2, c3, c4, rfl⟩
      obtain ⟨x, m', s, i', o, rfl, rfl, rfl, rfl, rfl⟩ := source_cells hc2
      exact ⟨⟨x, m', s, i', o⟩, fun q hq => hat q hq⟩
    obtain ⟨S, hS⟩ := choose_lt each
    have hl : ((List.range n).map S).length = n := by simp
    refine ⟨(List.range n).map S, hl.symm, by rw [hl]; exact hlc, by omega, ?_⟩
    by_cases h0 : n = 0
    · subst h0; exact .inl (by simp)
    · have h00 := hS 0 (by omega) 0 (by omega)
      have hspot : ad.spot = none := by
        have := World.cell?_spot h00
        simpa [Addr.add] using this
      obtain ⟨b, off, spot⟩ := ad
      simp only at hspot
      subst hspot
      have hlt := block_lt_of_cell h00
      refine .inr ⟨b, off, rfl, by simpa [Addr.add] using hlt, fun i hi => ?_⟩
      rw [hl] at hi
      have hg : sl ((List.range n).map S) i = S i := by simp [sl, List.getD, hi]
      rw [hg]
      have k := hS i hi
      simp only [addr_add_] at k
      exact ⟨k 0 (by omega), k 1 (by omega), k 2 (by omega), k 3 (by omega), k 4 (by omega)⟩
end Go.Proofs.Ytcjmigjkjepkdaa
