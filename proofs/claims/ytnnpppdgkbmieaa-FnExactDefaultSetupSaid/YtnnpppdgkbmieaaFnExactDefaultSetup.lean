/- impl.DefaultSetup answers as spec.DefaultSetup. No conditions. -/
import Derived.Test.YtnnpppdgkbmieaaRows
import Derived.Test.YtnnpppdgkbmieaaOpenBase
import Derived.Test.YtnnpppdgkbmieaaRow
import Derived.Test.YtnnpppdgkbmieaaTick1
import Derived.WalkSmall
import Derived.WalkKit
import Derived.ProofKit
import Derived.OpenShut
import Derived.ShutString
import Derived.ChangeOld
import Derived.Below
namespace Go.Proofs.Ytnnpppdgkbmieaa.fnExactDefaultSetup
open Go.ChangeShapes Go.WideShapes Go.ChangeAt Go.RowKit
set_option linter.unusedVariables false

theorem own : ownKnob Try.prog.godebug = none := by kernel_rfl
theorem laidOut : laidOutB Try.prog = true := by kernel_rfl


theorem walk (w : World) : Calls Try.prog 6 #[] w fun e w' => e = .returned (.bool true) ∧ Below w.heap.size w w' := by
  have SP : Hid (∀ W, Calls Try.prog 25 #[] W fun e w' => e = .returned (.agg #[.int .i64 3, .int .i64 2, .int .i64 10, .int .i64 2, .int .i64 5, .int .i64 4, .int .i64 3, .int .i64 2, .int .i64 20]) ∧ Below W.heap.size W w') := Lib.hid (fun W => by
    have q := (Blk.new W 50 #[.int .i64 3, .int .i64 2, .int .i64 10, .int .i64 2, .int .i64 5, .int .i64 4, .int .i64 3, .int .i64 2, .int .i64 20]).cell
    have HB := Lib.hid ((Below.refl W.heap.size W).alloc (Nat.le_refl _) (.cells #[.int .i64 3, .int .i64 2, .int .i64 10, .int .i64 2, .int .i64 5, .int .i64 4, .int .i64 3, .int .i64 2, .int .i64 20] 50))
    go_enter Try.func25, Try.ntmps25
    go_wp2
    exact bodyPost_ret (v := .agg #[.int .i64 3, .int .i64 2, .int .i64 10, .int .i64 2, .int .i64 5, .int .i64 4, .int .i64 3, .int .i64 2, .int .i64 20]) (by simp [results, Try.results25, go_sem, q]) rfl ⟨rfl, HB.out⟩)
  have IP : Hid (∀ W, Calls Try.prog 26 #[] W fun e w' => e = .returned (.agg #[.int .i64 3, .int .i64 2, .int .i64 10, .int .i64 2, .int .i64 5, .int .i64 4, .int .i64 3, .int .i64 2, .int .i64 20]) ∧ Below W.heap.size W w') := Lib.hid (fun W => by
    have q := (Blk.new W 50 #[.int .i64 3, .int .i64 2, .int .i64 10, .int .i64 2, .int .i64 5, .int .i64 4, .int .i64 3, .int .i64 2, .int .i64 20]).cell
    have HB := Lib.hid ((Below.refl W.heap.size W).alloc (Nat.le_refl _) (.cells #[.int .i64 3, .int .i64 2, .int .i64 10, .int .i64 2, .int .i64 5, .int .i64 4, .int .i64 3, .int .i64 2, .int .i64 20] 50))
    go_enter Try.func26, Try.ntmps26
    go_wp2
    exact bodyPost_ret (v := .agg #[.int .i64 3, .int .i64 2, .int .i64 10, .int .i64 2, .int .i64 5, .int .i64 4, .int .i64 3, .int .i64 2, .int .i64 20]) (by simp [results, Try.results26, go_sem, q]) rfl ⟨rfl, HB.out⟩)
  have EP : Hid (∀ W, Calls Try.prog 27 #[.agg #[.int .i64 3, .int .i64 2, .int .i64 10, .int .i64 2, .int .i64 5, .int .i64 4, .int .i64 3, .int .i64 2, .int .i64 20], .agg #[.int .i64 3, .int .i64 2, .int .i64 10, .int .i64 2, .int .i64 5, .int .i64 4, .int .i64 3, .int .i64 2, .int .i64 20]] W fun e w' => e = .returned (.bool true) ∧ Below W.heap.size W w') := Lib.hid (fun W => by
    go_enter Try.func27, Try.ntmps27
    go_wp2
    go_ret
    exact ⟨rfl, ((Below.refl _ _).alloc (Nat.le_refl _) _).alloc (by simp) _⟩)
  have B0 := Lib.hid (Below.refl w.heap.size w)
  go_enter Try.func6, Try.ntmps6
  go_wp2_with fail
  refine (SP.out _).mono ?_
  rintro e w1 ⟨rfl, hb⟩
  have B1 := Lib.hid ((B0.out.trans hb).alloc hb.size (.cells #[.int .i64 3, .int .i64 2, .int .i64 10, .int .i64 2, .int .i64 5, .int .i64 4, .int .i64 3, .int .i64 2, .int .i64 20] 50))
  have K1 := Lib.hid (Blk.new w1 50 #[.int .i64 3, .int .i64 2, .int .i64 10, .int .i64 2, .int .i64 5, .int .i64 4, .int .i64 3, .int .i64 2, .int .i64 20])
  clear hb
  go_wp2_with fail
  refine (IP.out _).mono ?_
  rintro e w2 ⟨rfl, hb⟩
  have B2 := Lib.hid (B1.out.trans (hb.mono B1.out.size))
  have K2 := Lib.hid ((K1.out.below hb).alloc (.cells #[.int .i64 3, .int .i64 2, .int .i64 10, .int .i64 2, .int .i64 5, .int .i64 4, .int .i64 3, .int .i64 2, .int .i64 20] 50))
  have q2 := K2.out.cell
  have B3 := Lib.hid (B2.out.alloc B2.out.size (.cells #[.int .i64 3, .int .i64 2, .int .i64 10, .int .i64 2, .int .i64 5, .int .i64 4, .int .i64 3, .int .i64 2, .int .i64 20] 50))
  clear hb
  go_wp2_with fail
  refine (EP.out _).mono ?_
  rintro e w3 ⟨rfl, hb⟩
  have B4 := Lib.hid (B3.out.trans (hb.mono B3.out.size))
  clear hb q2
  go_wp2
  go_ret
  exact ⟨rfl, B4.out⟩

set_option maxRecDepth 100000 in
theorem lifted (os : Os) (started : os.Started) (H : Type) (enc : TypeId × Value → H) :
    ReturnsInHanded {} Try.checked os 6 .any (Rows.fnExactDefaultSetupSpec.pre6 enc Try.prog Try.f6 Rows.fnExactDefaultSetupRow.domain false) (Rows.fnExactDefaultSetupSpec.post enc Try.prog Try.f6 false true false false) := by
  refine returnsInHanded_of_change (C := Try.checked) own started (by kernel_rfl) Try.func6
    (ChangeSpec.witness6 (enc := enc) (C := Try.checked) false ⟨#[], #[], []⟩ 8 (by kernel_rfl) (by kernel_rfl) (by kernel_rfl) (by kernel_rfl)) ?_
  intro W base args ds gs before hval0 hW hcnd _
  have hval : ∀ (j : Nat) t v, Try.f6.params[j]? = some t → args[j]? = some v → Value.okWide Try.prog W .any base t v := hval0
  have hW' := hW
  obtain ⟨p, q, hA0, hV, rfl, hfz, hnd⟩ := hW
  have hA : DataW.TrodAll enc Try.prog W 0 (fun _ => true) true Try.f6.params.toList args.toList ds p := hA0
  rw [Try.params6] at hA hval
  obtain ⟨hnil, rfl, rfl⟩ := trodAll_nil hA
  obtain rfl : args = #[] := by cases args; simp_all
  obtain ⟨rfl, rfl⟩ := trodVars_none hV
  clear hA0 hval0
  refine (walk W ).mono fun e W' ⟨he, bel⟩ => ?_
  subst he
  exact ⟨_, rfl, _, _, _, [], _, [], hW', trodAll_mk1 (shut_bool Try.underlying4 _), trodAll_mk0, rfl, bel.frame _, fun h => by cases h⟩

theorem over : Rows.fnExactDefaultSetupRow.holds Try.pinned (OpenSpec.ofChange Rows.fnExactDefaultSetupSpec) :=
  OpenClaim.holds_of_wide 6 Try.f6 rfl rfl rfl rfl rfl rfl rfl ⟨rfl, rfl, rfl, rfl, rfl⟩ rfl rfl rfl rfl rfl (by kernel_rfl) Try.func6 (by kernel_rfl)
    (of_decide_eq_true (by kernel_rfl)) (by unfold Func.isWrapper; first | (rw [if_pos (by decide +kernel)]; kernel_rfl) | (rw [if_neg (by decide +kernel)]; exact ⟨rfl, rfl⟩))
    (fun os started H enc _ => lifted os started H enc)

theorem proved : Rows.FnExactDefaultSetupSaid := over
#print axioms proved
end Go.Proofs.Ytnnpppdgkbmieaa.fnExactDefaultSetup
