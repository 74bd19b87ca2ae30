/- From a row's list of the two tables of settings to what the walks ask of the world (Tabs). (made by tools/mktabs.py) -/
import Derived.Test.YtalelcloppbhcaaDoorRows
import Derived.Test.YtalelcloppbhcaaDoorSetup1
import Derived.Test.YtalelcloppbhcaaDoorVars
import Derived.Lib.LaidTab
import Derived.Lib.LaidU8
import Derived.LaidLaws
import Derived.MakeChecks
namespace Go.Proofs.YtalelcloppbhcaaDoor
open Go.RowKit

theorem cellsIntT : Tryd.prog.cellsOf 3 = 1 := by kernel_rfl
theorem cellsFieldsT : Tryd.prog.cellsOf 67 = 9 := by kernel_rfl
theorem gLeast : Tryd.prog.globalNamed "loop.example/g00728/impl.leastFields" = some 2 := by kernel_rfl
theorem gLeastT : (Tryd.prog.globals[2]?).map (·.type) = some 67 := by kernel_rfl
theorem leastData : (Rows.laid_loop_example_g00728_impl_leastFields : DataW Unit) = Lib.tabData .i64 [1, 1, 1, 0, 0, 1, 1, 1, 1] := by kernel_rfl
theorem least_of {W : World} {laid : List (String × DataW Unit)} (h : laidMet Tryd.prog laid W) (hm : ("loop.example/g00728/impl.leastFields", (Rows.laid_loop_example_g00728_impl_leastFields : DataW Unit)) ∈ laid) : Lib.TabIs Tryd.prog W "loop.example/g00728/impl.leastFields" .i64 [1, 1, 1, 0, 0, 1, 1, 1, 1] := by
  have hr : Lib.VarReads Tryd.prog W "loop.example/g00728/impl.leastFields" Rows.laid_loop_example_g00728_impl_leastFields := Lib.laidMet.reads h hm
  rw [leastData] at hr
  obtain ⟨g', t', cs, fuel, p, hg', ht', hvar, hd⟩ := hr
  obtain rfl := Option.some.inj (gLeast.symm.trans hg')
  obtain rfl := Option.some.inj (gLeastT.symm.trans ht')
  unfold Lib.TabIs
  rw [hvar, ← Lib.cells_of_tab Tryd.underlying67 Tryd.underlying3 cellsIntT cellsFieldsT hd]
theorem gMost : Tryd.prog.globalNamed "loop.example/g00728/impl.mostFields" = some 0 := by kernel_rfl
theorem gMostT : (Tryd.prog.globals[0]?).map (·.type) = some 67 := by kernel_rfl
theorem mostData : (Rows.laid_loop_example_g00728_impl_mostFields : DataW Unit) = Lib.tabData .i64 [6, 4, 1000, 1000, 1000, 20, 20, 20, 40] := by kernel_rfl
theorem most_of {W : World} {laid : List (String × DataW Unit)} (h : laidMet Tryd.prog laid W) (hm : ("loop.example/g00728/impl.mostFields", (Rows.laid_loop_example_g00728_impl_mostFields : DataW Unit)) ∈ laid) : Lib.TabIs Tryd.prog W "loop.example/g00728/impl.mostFields" .i64 [6, 4, 1000, 1000, 1000, 20, 20, 20, 40] := by
  have hr : Lib.VarReads Tryd.prog W "loop.example/g00728/impl.mostFields" Rows.laid_loop_example_g00728_impl_mostFields := Lib.laidMet.reads h hm
  rw [mostData] at hr
  obtain ⟨g', t', cs, fuel, p, hg', ht', hvar, hd⟩ := hr
  obtain rfl := Option.some.inj (gMost.symm.trans hg')
  obtain rfl := Option.some.inj (gMostT.symm.trans ht')
  unfold Lib.TabIs
  rw [hvar, ← Lib.cells_of_tab Tryd.underlying67 Tryd.underlying3 cellsIntT cellsFieldsT hd]
theorem tabs_of {W : World} {laid : List (String × DataW Unit)} (hpl : (laid.all fun x => x.2.handleName?.isNone) = true) (h : laidMetH Tryd.prog laid W)
    (h0 : ("loop.example/g00728/impl.leastFields", (Rows.laid_loop_example_g00728_impl_leastFields : DataW Unit)) ∈ laid) (h1 : ("loop.example/g00728/impl.mostFields", (Rows.laid_loop_example_g00728_impl_mostFields : DataW Unit)) ∈ laid) : Tabs W W.heap.size := by
  rw [MakeChecks.laidMetH_plain _ _ _ hpl] at h
  have t0 := least_of h h0
  have t1 := most_of h h1
  have c0 := fun i hi => t0.cell gLeast i hi
  have c1 := fun i hi => t1.cell gMost i hi
  exact ⟨c0 0 (by decide), c0 1 (by decide), c0 2 (by decide), c0 3 (by decide), c0 4 (by decide), c0 5 (by decide), c0 6 (by decide), c0 7 (by decide), c0 8 (by decide), c1 0 (by decide), c1 1 (by decide), c1 2 (by decide), c1 3 (by decide), c1 4 (by decide), c1 5 (by decide), c1 6 (by decide), c1 7 (by decide), c1 8 (by decide), block_lt_of_cell (c0 0 (by decide)), block_lt_of_cell (c1 0 (by decide))⟩
end Go.Proofs.YtalelcloppbhcaaDoor
