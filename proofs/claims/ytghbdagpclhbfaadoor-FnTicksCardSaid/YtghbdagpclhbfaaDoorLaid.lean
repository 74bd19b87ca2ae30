/- From a row's list of package-level variables to what the library's contracts ask of the world: the table of powers of ten, the two errors of strconv. -/
import Derived.Test.YtghbdagpclhbfaaDoorRows
import Derived.Test.YtghbdagpclhbfaaDoorLib
import Derived.Lib.LaidTab
import Derived.Lib.LaidU8
import Derived.LaidLaws
import Derived.MakeChecks
namespace Go.Proofs.YtghbdagpclhbfaaDoor
open Go.RowKit

theorem gPowType : (Tryd.prog.globals[5]?).map (·.type) = some 112 := by kernel_rfl
theorem cellsPowE : Tryd.prog.cellsOf 80 = 1 := by kernel_rfl
theorem cellsPowT : Tryd.prog.cellsOf 112 = 20 := by kernel_rfl
theorem powData : (Rows.laid_internal_strconv_uint64pow10 : DataW Unit) = Lib.tabData .u64 Lib.pow10Tab := by kernel_rfl
theorem pow_of {W : World} {laid : List (String × DataW Unit)} (hpl : (laid.all fun x => x.2.handleName?.isNone) = true) (h : laidMetH Tryd.prog laid W) (hm : ("internal/strconv.uint64pow10", (Rows.laid_internal_strconv_uint64pow10 : DataW Unit)) ∈ laid) : Pow W := by
  rw [MakeChecks.laidMetH_plain _ _ _ hpl] at h
  have hr : Lib.VarReads Tryd.prog W "internal/strconv.uint64pow10" Rows.laid_internal_strconv_uint64pow10 := Lib.laidMet.reads h hm
  rw [powData] at hr
  obtain ⟨g', t', cs, fuel, p, hg', ht', hvar, hd⟩ := hr
  obtain rfl := Option.some.inj (gPow.symm.trans hg')
  obtain rfl := Option.some.inj (gPowType.symm.trans ht')
  unfold Pow Lib.TabIs
  rw [hvar, ← Lib.cells_of_tab Tryd.underlying112 Tryd.underlying80 cellsPowE cellsPowT hd]

theorem gSynType : (Tryd.prog.globals[0]?).map (·.type) = some 44 := by kernel_rfl
theorem gRanType : (Tryd.prog.globals[1]?).map (·.type) = some 44 := by kernel_rfl
theorem iface_var {W : World} {n nm : String} {d : DataW Unit} {g : Nat} (hg : Tryd.prog.globalNamed n = some g) (ht : (Tryd.prog.globals[g]?).map (·.type) = some 44) (hr : Lib.VarReads Tryd.prog W n (.iface nm d)) :
    ∃ tp p, W.var? Tryd.prog n = some #[.iface tp p] := by
  obtain ⟨g', t', cs, fuel, p, hg', ht', hvar, hd⟩ := hr
  obtain rfl := Option.some.inj (hg.symm.trans hg')
  obtain rfl := Option.some.inj (ht.symm.trans ht')
  obtain ⟨_, u, v, hcs, _, _⟩ := iface_of_trod Tryd.underlying44 hd
  have hc : cs = #[.iface u v] := Array.toList_inj.1 (hcs.trans rfl)
  exact ⟨u, v, by rw [hvar, hc]⟩
theorem errs_of {W : World} {laid : List (String × DataW Unit)} (hpl : (laid.all fun x => x.2.handleName?.isNone) = true) (h : laidMetH Tryd.prog laid W)
    (hs : ("strconv.ErrSyntax", (Rows.laid_strconv_ErrSyntax : DataW Unit)) ∈ laid) (hr : ("strconv.ErrRange", (Rows.laid_strconv_ErrRange : DataW Unit)) ∈ laid) : Errs W := by
  rw [MakeChecks.laidMetH_plain _ _ _ hpl] at h
  exact ⟨iface_var gSyn gSynType (Lib.laidMet.reads h hs), iface_var gRan gRanType (Lib.laidMet.reads h hr)⟩

end Go.Proofs.YtghbdagpclhbfaaDoor
