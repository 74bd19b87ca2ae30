/- What an argument that is a slice of slices of ints is as a value, out of its reading. -/
import Derived.Test.YtcjmigjkjepkdaaOpenRing
import Derived.Test.YtcjmigjkjepkdaaRowsS
import Derived.Deep.Matrix
namespace Go.Proofs.Ytcjmigjkjepkdaa
open Go.ChangeShapes Go.WideShapes Go.ChangeAt Go.RowKit Go.Joins Go.Deep

theorem addr_add_ {b off i : Nat} : (⟨b, off, none⟩ : Addr).add i = ⟨b, off + i, none⟩ := by
  by_cases h0 : i = 0
  · subst h0; rfl
  · simp [Addr.add, h0]
set_option maxRecDepth 100000 in
/-- An argument that is a slice of slices of ints. -/
theorem arg_grid {H : Type} {enc : TypeId × Value → H} {W : World} {base : Nat} {v : Value} {d : DataW H} {p : List MemPlace} (hv : Value.okWide Try.prog W .any base 24 v)
    (h : DataW.Trod enc Try.prog W 0 (fun _ => true) true 24 v d p) : ∃ a n c, v = .slice a n c ∧ ∃ ess : List (List Int), n = ess.length ∧ Grid W W.heap.size a c ess := by
  obtain ⟨a, n, c, rfl⟩ := okWide_slice Try.underlying24 hv
  obtain ⟨fuel, hf⟩ := h
  refine ⟨a, n, c, rfl, ?_⟩
  rcases open_int_rows Try.underlying24 Try.underlying29 Try.underlying3 (by kernel_rfl) (by kernel_rfl) (by simpa [Value.cells] using hf) with ⟨hcs, _⟩ | ⟨ad, len, cap, A, L, C, Z, hcs, _, hlc, hm, _, hr⟩
  · simp at hcs
    obtain ⟨rfl, rfl, rfl⟩ := hcs
    exact ⟨[], rfl, Grid.none_ _ _⟩
  · simp at hcs
    obtain ⟨rfl, rfl, rfl⟩ := hcs
    unfold maxLen at hm
    have hl : ((List.range n).map fun r => (Z r).take (L r)).length = n := by simp
    refine ⟨(List.range n).map fun r => (Z r).take (L r), hl.symm, by rw [hl]; exact hlc, by omega, ?_⟩
    by_cases h0 : n = 0
    · subst h0; exact .inl (by simp)
    · obtain ⟨b, off, spot⟩ := ad
      have h00 := (hr 0 (by omega)).1
      have hspot : spot = none := by simpa [Addr.add] using World.cell?_spot h00
      subst hspot
      have hlt := block_lt_of_cell h00
      refine .inr ⟨b, off, rfl, by simpa [Addr.add] using hlt, fun i hi => ?_⟩
      rw [hl] at hi
      obtain ⟨e1, r1, r2, r3, r4, r5, r6⟩ := hr i (by omega)
      have hg : ((List.range n).map fun r => (Z r).take (L r)).getD i [] = (Z i).take (L i) := by simp [List.getD, hi]
      have hlen : ((Z i).take (L i)).length = L i := by rw [List.length_take]; omega
      unfold maxLen at r2
      rw [hg, hlen]
      refine ⟨A i, C i, by rw [← addr_add_]; exact e1, by rw [hlen]; exact r1, by omega, ?_⟩
      by_cases hL : L i = 0
      · exact .inl (by rw [hL]; simp)
      · cases hA : A i with
        | none => exact absurd (r5 hA) (by omega)
        | some a' =>
          obtain ⟨_, hcell⟩ := r6 a' hA
          obtain ⟨b', off', spot'⟩ := a'
          have k0 := hcell 0 (by omega)
          have hspot' : spot' = none := by simpa [Addr.add] using World.cell?_spot k0
          subst hspot'
          have hlt' := block_lt_of_cell k0
          refine .inr ⟨b', off', rfl, by simpa [Addr.add] using hlt', fun q hq => ?_⟩
          rw [hlen] at hq
          rw [← addr_add_, hcell q (by omega)]
          simp [el, List.getD, hq]
end Go.Proofs.Ytcjmigjkjepkdaa
