/- What the arguments of the laws of chapter 3 are as values, out of their readings: a number, a slice of ints, a ring, a credit, a slice of bytes. -/
import Derived.Test.YtcjmigjkjepkdaaRows
import Derived.Test.YtcjmigjkjepkdaaMem
import Derived.ProofKit
import Derived.OpenShut
import Derived.Lib.SmallJoins
import Derived.Laws.Rows
namespace Go.Proofs.Ytcjmigjkjepkdaa
open Go.ChangeShapes Go.WideShapes Go.ChangeAt Go.RowKit Go.Joins

theorem i64_wf {n : Int} (h : (Lit.int .i64 n).wf = true) : -9223372036854775808 ≤ n ∧ n ≤ 9223372036854775807 := by simpa [Lit.wf, IntKind.min, IntKind.max, IntKind.signed, IntKind.bits] using h

def Is64 (x : Int) : Prop := -9223372036854775808 ≤ x ∧ x ≤ 9223372036854775807
set_option maxRecDepth 100000 in
/-- A slice's cells read as ints. -/
theorem ints_cells {H : Type} {enc : TypeId × Value → H} {W : World} {held : Bool} {fuel : Nat} {x : DataW H × List MemPlace} {a : Option Addr} {n c : Nat}
    (hf : DataW.trod enc Try.prog W 0 (fun _ => true) held fuel 29 [.slice a n c] = some x) : ∃ xs : List Int, n = xs.length ∧ (∀ y ∈ xs, Is64 y) ∧ Nums .i64 W W.heap.size a c xs := by
  rcases open_ints Try.underlying29 Try.underlying3 (by kernel_rfl) hf with ⟨hcs, _⟩ | ⟨ad, l, cap, zs, hcs, _, hlc, hm, hz, _, hcell, hwz⟩
  · simp at hcs
    obtain ⟨rfl, rfl, rfl⟩ := hcs
    exact ⟨[], rfl, fun _ h => absurd h (by simp), Nums.none_ _ _ _⟩
  · simp at hcs
    obtain ⟨rfl, rfl, rfl⟩ := hcs
    have hz' : n ≤ zs.length := by rw [hz]; split <;> omega
    have hlen : (zs.take n).length = n := by rw [List.length_take]; omega
    unfold maxLen at hm
    refine ⟨zs.take n, hlen.symm, fun y hy => i64_wf (hwz _ (List.mem_of_mem_take hy)), by omega, by omega, ?_⟩
    by_cases h0 : n = 0
    · subst h0; exact .inl (by simp)
    · obtain ⟨b, off, spot⟩ := ad
      have h00 := hcell 0 (by omega)
      have hspot : spot = none := by simpa [Addr.add] using World.cell?_spot h00
      subst hspot
      have hlt := block_lt_of_cell h00
      refine .inr ⟨b, off, rfl, by simpa [Addr.add] using hlt, fun i hi => ?_⟩
      rw [hlen] at hi
      have hi' := hcell i (by omega)
      have e : (⟨b, off, none⟩ : Addr).add i = ⟨b, off + i, none⟩ := by
        by_cases h0 : i = 0
        · subst h0; rfl
        · simp [Addr.add, h0]
      rw [e] at hi'
      rw [hi']
      simp [el, List.getD, hi]

set_option maxRecDepth 100000 in
/-- An argument that is a slice of ints. -/
theorem arg_ints {H : Type} {enc : TypeId × Value → H} {W : World} {base : Nat} {v : Value} {d : DataW H} {p : List MemPlace} (hv : Value.okWide Try.prog W .any base 29 v)
    (h : DataW.Trod enc Try.prog W 0 (fun _ => true) true 29 v d p) : ∃ a n c, v = .slice a n c ∧ ∃ xs : List Int, n = xs.length ∧ (∀ y ∈ xs, Is64 y) ∧ Nums .i64 W W.heap.size a c xs := by
  obtain ⟨a, n, c, rfl⟩ := okWide_slice Try.underlying29 hv
  obtain ⟨fuel, hf⟩ := h
  exact ⟨a, n, c, rfl, ints_cells (by simpa [Value.cells] using hf)⟩
set_option maxRecDepth 100000 in
/-- An argument that is a number. -/
theorem arg_int {H : Type} {enc : TypeId × Value → H} {W : World} {base : Nat} {v : Value} {d : DataW H} {p : List MemPlace} (hv : Value.okWide Try.prog W .any base 3 v)
    (h : DataW.Trod enc Try.prog W 0 (fun _ => true) true 3 v d p) : ∃ x : Int, v = .int .i64 x ∧ Is64 x := by
  obtain ⟨x, hx, _, _, hw⟩ := open_int Try.underlying3 hv h
  exact ⟨x, hx, i64_wf hw⟩



end Go.Proofs.Ytcjmigjkjepkdaa
