/- Contracts over lags: cmp.Less and its kin at float64, a source's lag and the way back. -/
import Derived.Test.YtcjmigjkjepkdaaPlainLag
import Derived.Test.YtcjmigjkjepkdaaSrc4
import Derived.Laws.Cover2
import Derived.Laws.LoneSync
namespace Go.Proofs.Ytcjmigjkjepkdaa
open Go.RowKit

/-- The value of a lag. -/
def lagV (r : Nat) : Value := .float .f64 (lagBits r)

theorem fmt_lt (a b : Nat) : (FloatKind.f64.format.order (lagBits a) (lagBits b) == some .lt) = ltR a b := lt_lag a b
theorem fmt_ne (a : Nat) : (FloatKind.f64.format.order (lagBits a) (lagBits a) != some .eq) = false := ne_lag a
theorem fmt_gt (a : Nat) : (FloatKind.f64.format.order (lagBits a) 9218868437227405311 == some .gt) = decide (1000000 < a) := gt_lag a

theorem isNaN_any (r : Nat) (w : World) : Calls Try.prog 87 #[.float .f64 (lagBits r)] w fun e w' => e = .returned (.bool false) ∧ w = w' := by
  have h := fmt_ne r
  go_enter Try.func87, Try.ntmps87
  go_wp2
  go_ret
  exact ⟨rfl, rfl⟩
/-- cmp.Less on lags: by their ranks. -/
theorem less_any (a b : Nat) (w : World) : Calls Try.prog 75 #[.float .f64 (lagBits a), .float .f64 (lagBits b)] w fun e w' => e = .returned (.bool (ltR a b)) ∧ w = w' := by
  have h := fmt_lt a b
  go_enter Try.func75, Try.ntmps75
  go_wp2_with (go_at_call 87; refine (isNaN_any _ _).mono ?_; rintro e w' ⟨rfl, rfl⟩)
  go_ret
  exact ⟨rfl, rfl⟩
theorem run_frombits {P : Program} {f : FuncId} {fn : Func} (hf : P.funcs[f]? = some fn) (hname : (fn.name == "runtime.NumGoroutine") = false) (hb : fn.body.isNone = true) (hn : Extern.findNext fn = none)
    (he : Extern.find fn = some Extern.MathFloatBits.float64frombits) (x : Int) (w : World) : (callFunc f #[.int .u64 x]).run P w = .ok (.value (.float .f64 x.toNat)) w := by
  rw [run_callFunc_extern hf hname hb hn he]
  rfl
set_option maxRecDepth 100000 in
theorem inf_any (w : World) : Calls Try.prog 62 #[.int .i64 1] w fun e w' => e = .returned (.float .f64 9218868437227405312) ∧ w = w' := by
  have hl := fun W => run_frombits (P := Try.prog) Try.func68 (by kernel_rfl) (by kernel_rfl) (by kernel_rfl) (by kernel_rfl) 9218868437227405312 W
  go_enter Try.func62, Try.ntmps62
  go_wp2
  go_ret
  exact ⟨rfl, rfl⟩
theorem isInf_any (r : Nat) (w : World) : Calls Try.prog 66 #[.float .f64 (lagBits r), .int .i64 1] w fun e w' => e = .returned (.bool (decide (1000000 < r))) ∧ w = w' := by
  have h := fmt_gt r
  go_enter Try.func66, Try.ntmps66
  go_wp2
  go_ret
  exact ⟨rfl, rfl⟩

/-- How far a mark lags. -/
def lagOf (m : Int) : Nat := (1000000 - m).toNat
set_option maxRecDepth 100000 in
theorem lag_x (x m s : Int) (i o : Bool) (w : World) (h0 : -1 ≤ m) (h1 : m ≤ 1000000) : Calls Try.prog 52 #[(.agg #[.int .i64 x, .int .i64 m, .int .i64 s, .bool i, .bool o])] w fun e w' => e = .returned (.float .f64 (lagBits (lagOf m))) ∧ Below w.heap.size w w' := by
  have B1 := Lib.hid ((Below.refl w.heap.size w).alloc (Nat.le_refl _) (.cells #[.int .i64 x, .int .i64 m, .int .i64 s, .bool i, .bool o] 28))
  by_cases hm : m = -1
  · subst hm
    have HE : Hid (lagBits (lagOf (-1)) = 9218868437227405312) := lag_out (by unfold lagOf; omega)
    have HI := Lib.hid (fun W => inf_any W)
    go_enter Try.func52, Try.ntmps52
    go_wp2_with fail
    refine (HI.out _).mono ?_
    rintro e w' ⟨rfl, rfl⟩
    go_wp2
    go_ret
    exact ⟨by rw [HE.out]; rfl, B1.out⟩
  · have HE : Hid (lagBits (lagOf m) = floatOfInt .f64 (1000000 - m)) := by
      have h2 : lagOf m ≤ 1000000 := by unfold lagOf; omega
      rw [show lagBits (lagOf m) = _ from lag_in h2]
      unfold floatOfInt lagOf
      rw [show (((1000000 - m).toNat : Nat) : Int) = 1000000 - m by omega]
      exact Lib.hid rfl
    go_enter Try.func52, Try.ntmps52
    go_wp2
    go_ret
    exact ⟨by rw [HE.out]; rfl, B1.out⟩
set_option maxRecDepth 100000 in
theorem markOf_any (r : Nat) (w : World) (hr : r ≤ 1000001) : Calls Try.prog 55 #[.float .f64 (lagBits r)] w fun e w' => e = .returned (.int .i64 (1000000 - (r : Int))) ∧ w = w' := by
  have HI := Lib.hid (isInf_any r w)
  by_cases hb : 1000000 < r
  · obtain rfl : r = 1000001 := by omega
    rw [decide_eq_true hb] at HI
    clear hb
    go_enter Try.func55, Try.ntmps55
    go_wp2_with fail
    refine HI.out.mono ?_
    rintro e w' ⟨rfl, rfl⟩
    go_wp2
    go_ret
    exact ⟨rfl, rfl⟩
  · rw [decide_eq_false hb] at HI
    have hc := fun W => run_convert_float_int (P := Try.prog) W 73 3 .f64 .i64 (lagBits r) (r : Int) (by kernel_rfl) Try.underlying3 (int_lag r (by omega))
    go_enter Try.func55, Try.ntmps55
    go_wp2_with fail
    refine HI.out.mono ?_
    rintro e w' ⟨rfl, rfl⟩
    go_wp2
    go_ret
    exact ⟨rfl, rfl⟩
end Go.Proofs.Ytcjmigjkjepkdaa
