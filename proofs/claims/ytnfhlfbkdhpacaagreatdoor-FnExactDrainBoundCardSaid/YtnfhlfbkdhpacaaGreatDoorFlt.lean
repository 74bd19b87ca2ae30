/- From a row's list of the program's two faults to what the walks ask of the world (Flt); the shape of two variables' readings. -/
import Derived.Test.YtnfhlfbkdhpacaaGreatDoorRows
import Derived.Test.YtnfhlfbkdhpacaaGreatDoorNext
import Derived.Test.YtnfhlfbkdhpacaaGreatDoorJoint1
import Derived.Stop.LaidTwo
import Derived.MakeChecks
import Derived.LaidLaws
namespace Go.Proofs.YtnfhlfbkdhpacaaGreatDoor
open Go.RowKit

theorem star : "*" ++ "errors.errorString" = "*errors.errorString" := by decide
theorem rowErr (u : TypeId) (h : Tryz.prog.typeName? 3 u = some "*errors.errorString") : u = 363 :=
  typeName_ptr_named (nm := "errors.errorString") (by rw [star]; kernel_rfl) (by kernel_rfl) (by decide) u (by rw [star]; exact h)
theorem gShort : Tryz.prog.globalNamed "loop.example/g00728/impl.errShort" = some 1 := by kernel_rfl
theorem gBent : Tryz.prog.globalNamed "loop.example/g00728/impl.errBent" = some 2 := by kernel_rfl
theorem gShortType : (Tryz.prog.globals[1]?).map (·.type) = some 140 := by kernel_rfl
theorem gBentType : (Tryz.prog.globals[2]?).map (·.type) = some 140 := by kernel_rfl
theorem cellsErrS : Tryz.prog.cellsOf 387 = 1 := by kernel_rfl
theorem cellsStr : Tryz.prog.cellsOf 9 = 1 := by kernel_rfl
theorem flt_of {W : World} {laid r : List (String × DataW Unit)} (hpl : (laid.all fun x => x.2.handleName?.isNone) = true) (h : laidMetH Tryz.prog laid W)
    (he : laid = ("loop.example/g00728/impl.errShort", Rows.laid_loop_example_g00728_impl_errShort) :: ("loop.example/g00728/impl.errBent", Rows.laid_loop_example_g00728_impl_errBent) :: r := by rfl) : ∃ aB aS, Flt W W.heap.size aB aS := by
  rw [MakeChecks.laidMetH_plain _ _ _ hpl] at h
  subst he
  obtain ⟨a0, a1, s0, s1, c0, c1, t0, t1, hv0, hv1, hc0, _, _, hc1, _, _, hne, hb0, hb1⟩ := laid_sentinels2 h gShort gShortType gBent gBentType Tryz.underlying140 rowErr Tryz.underlying363 Tryz.underlying387 rfl rfl Tryz.underlying9 cellsErrS cellsStr
  have k0 := World.var?_cell gShort hv0 0
  have k1 := World.var?_cell gBent hv1 0
  simp at k0 k1
  have l0 := block_lt_of_cell k0
  have l1 := block_lt_of_cell k1
  have m0 := (Array.getElem?_eq_some_iff.1 hb0).1
  have m1 := (Array.getElem?_eq_some_iff.1 hb1).1
  simp at l0 l1
  exact ⟨a1, a0, k1, k0, fun e => hne e.symm, ⟨⟨c1, t1, hb1⟩, ⟨c0, t0, hb0⟩⟩, by omega, m1, m0⟩

end Go.Proofs.YtnfhlfbkdhpacaaGreatDoor
