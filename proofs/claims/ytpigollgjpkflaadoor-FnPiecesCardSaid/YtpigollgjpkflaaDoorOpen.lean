/- What the arguments of the laws of chapter 2 are as values, out of their readings: a frame, a slice of bytes, a decoder. -/
import Derived.Test.YtpigollgjpkflaaDoorRows
import Derived.Test.YtpigollgjpkflaaDoorMem
import Derived.ProofKit
import Derived.OpenShut
import Derived.Lib.SmallJoins
import Derived.Laws.Rows
namespace Go.Proofs.YtpigollgjpkflaaDoor
open Go.ChangeShapes Go.WideShapes Go.ChangeAt Go.RowKit Go.Joins

theorem u8_wf {n : Int} (h : (Lit.int .u8 n).wf = true) : 0 ≤ n ∧ n ≤ 255 := by simpa [Lit.wf, IntKind.min, IntKind.max, IntKind.signed, IntKind.bits] using h

set_option maxRecDepth 100000 in
/-- A slice's cells read as bytes. -/
theorem bytes_cells {H : Type} {enc : TypeId × Value → H} {W : World} {held : Bool} {fuel : Nat} {x : DataW H × List MemPlace} {a : Option Addr} {n c : Nat}
    (hf : DataW.trod enc Tryd.prog W 0 (fun _ => true) held fuel 22 [.slice a n c] = some x) : ∃ xs : List Int, n = xs.length ∧ IsB xs ∧ Nums .u8 W W.heap.size a c xs := by
  rcases open_ints Tryd.underlying22 Tryd.underlying5 (by kernel_rfl) hf with ⟨hcs, _⟩ | ⟨ad, l, cap, zs, hcs, _, hlc, hm, hz, _, hcell, hwz⟩
  · simp at hcs
    obtain ⟨rfl, rfl, rfl⟩ := hcs
    exact ⟨[], rfl, IsB.nil, Nums.none_ _ _ _⟩
  · simp at hcs
    obtain ⟨rfl, rfl, rfl⟩ := hcs
    have hz' : n ≤ zs.length := by rw [hz]; split <;> omega
    have hlen : (zs.take n).length = n := by rw [List.length_take]; omega
    unfold maxLen at hm
    refine ⟨zs.take n, hlen.symm, fun y hy => u8_wf (hwz _ (List.mem_of_mem_take hy)), by omega, by omega, ?_⟩
    by_cases h0 : n = 0
    · subst h0; exact .inl (by simp)
    · obtain ⟨b, off, spot⟩ := ad
      have h00 := hcell 0 (by omega)
      have hspot : spot = none := by simpa [Addr.add] using World.cell?_spot h00
      subst hspot
      have hlt := block_lt_of_cell h00
      refine .inr ⟨b, off, rfl, by simpa [Addr.add] using hlt, fun i hi => ?_⟩
      rw [hlen] at hi
      have hi' := hcell i (by omega)
      have e : (⟨b, off, none⟩ : Addr).add i = ⟨b, off + i, none⟩ := by
        by_cases h0 : i = 0
        · subst h0; rfl
        · simp [Addr.add, h0]
      rw [e] at hi'
      rw [hi']
      simp [el, List.getD, hi]

set_option maxRecDepth 100000 in
/-- An argument that is a slice of bytes. -/
theorem arg_bytes {H : Type} {enc : TypeId × Value → H} {W : World} {base : Nat} {v : Value} {d : DataW H} {p : List MemPlace} (hv : Value.okWide Tryd.prog W .any base 22 v)
    (h : DataW.Trod enc Tryd.prog W 0 (fun _ => true) true 22 v d p) : ∃ a n c, v = .slice a n c ∧ ∃ xs : List Int, n = xs.length ∧ IsB xs ∧ Nums .u8 W W.heap.size a c xs := by
  obtain ⟨a, n, c, rfl⟩ := okWide_slice Tryd.underlying22 hv
  obtain ⟨fuel, hf⟩ := h
  exact ⟨a, n, c, rfl, bytes_cells (by simpa [Value.cells] using hf)⟩



end Go.Proofs.YtpigollgjpkflaaDoor
