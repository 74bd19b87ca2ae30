/- impl.AllMarks answers as spec.AllMarks at every list of sources and every last mark (of up to 1048576 sources; beyond, the law says nothing): the law returns true, and its arguments read as before. No conditions. -/
import Derived.Test.YtcjmigjkjepkdaaRows
import Derived.Test.YtcjmigjkjepkdaaOpenSrcs
import Derived.Test.YtcjmigjkjepkdaaAllMI
import Derived.Test.YtcjmigjkjepkdaaSrcsS2
import Derived.WalkSmall
import Derived.WalkKit
import Derived.ProofKit
import Derived.OpenShut
import Derived.ShutString
import Derived.ChangeOld
import Derived.Below
namespace Go.Proofs.Ytcjmigjkjepkdaa.fnExactAllMarks
open Go.ChangeShapes Go.WideShapes Go.ChangeAt Go.RowKit
set_option linter.unusedVariables false

theorem own : ownKnob Try.prog.godebug = none := by kernel_rfl
theorem laidOut : laidOutB Try.prog = true := by kernel_rfl


set_option maxHeartbeats 4000000 in
set_option maxRecDepth 100000 in
theorem walk (w : World) (a : Option Addr) (n c : Nat) (l : List Src) (hn : n = l.length) (hs : Srcs w w.heap.size a c l) (m : Int) (hm : Is64 m) :
    Calls Try.prog 4 #[.slice a n c, .int .i64 m] w fun e w' => e = .returned (.bool true) ∧ Below w.heap.size w w' := by
  have hc1 := hs.cap
  have hc2 := hs.big
  subst hn
  have HZ := Lib.hid (szSrcs_any a l.length c w (by omega))
  have A0 := Lib.hid hs
  obtain ⟨R, hR⟩ : ∃ R, R = allM l m := ⟨_, rfl⟩
  have SP : Hid (∀ (W : World) (a' : Option Addr) (c' : Nat), Srcs W W.heap.size a' c' l → Calls Try.prog 13 #[.slice a' l.length c', .int .i64 m] W fun e w' => e = .returned (.int .i64 R) ∧ Below W.heap.size W w') := Lib.hid (fun W a' c' h => by rw [hR]; exact specAllM_any a' _ c' l m _ W h rfl (Nat.le_refl _))
  have IP : Hid (∀ (W : World) (a' : Option Addr) (c' : Nat) (hi : Nat), hi ≤ W.heap.size → Srcs W hi a' c' l → Calls Try.prog 12 #[.slice a' l.length c', .int .i64 m] W fun e w' => e = .returned (.int .i64 R) ∧ Below W.heap.size W w') := Lib.hid (fun W a' c' hi hh h => by rw [hR]; exact implAllM_any a' _ c' l m hi W h rfl hh)
  clear hR hm hs
  go_enter Try.func4, Try.ntmps4
  go_wp2_with fail
  refine HZ.out.mono ?_
  rintro e' w' ⟨rfl, rfl⟩
  by_cases hL : (1048576 : Int) - (l.length : Int) < 0
  · rw [if_pos hL]
    clear hL
    go_wp2
    go_ret
    exact ⟨rfl, Below.refl _ _⟩
  · rw [if_neg hL]
    have hfit : l.length ≤ 1048576 := by omega
    clear hL
    have hL2 : ¬ ((1048576 : Int) - (l.length : Int) < 0) := by omega
    go_wp2_with fail
    refine (toSrcs_any a _ c l _ w A0.out rfl (Nat.le_refl _) hfit).mono ?_
    rintro e w1 ⟨a1, c1, rfl, hs1, hb1⟩
    have B1 := Lib.hid hb1
    have S1 := Lib.hid hs1
    have z1 := hb1.size
    clear hb1 hs1
    go_wp2_with fail
    refine (SP.out w1 a1 c1 S1.out).mono ?_
    rintro e w2 ⟨rfl, hb2⟩
    have B2 := Lib.hid (B1.out.trans (hb2.mono z1))
    have z2 := hb2.size
    clear hb2
    go_wp2_with fail
    refine (toSrcs_any a _ c l _ w2 (A0.out.below B2.out) rfl (by omega) hfit).mono ?_
    rintro e w3 ⟨a3, c3, rfl, hs3, hb3⟩
    have B3 := Lib.hid (B2.out.trans (hb3.mono (by omega)))
    have S3 := Lib.hid hs3
    have z3 := hb3.size
    clear hb3 hs3
    go_wp2_with fail
    refine (IP.out w3 a3 c3 _ (Nat.le_refl _) S3.out).mono ?_
    rintro e w4 ⟨rfl, hb4⟩
    have B4 := Lib.hid (B3.out.trans (hb4.mono (by omega)))
    have S4 := Lib.hid (S3.out.below hb4)
    have z4 := hb4.size
    clear hb4
    go_wp2_with fail
    refine (toSrcs_any a _ c l _ w4 (A0.out.below B4.out) rfl (by omega) hfit).mono ?_
    rintro e w5 ⟨a5, c5, rfl, hs5, hb5⟩
    have B5 := Lib.hid (B4.out.trans (hb5.mono (by omega)))
    have S5 := Lib.hid hs5
    have S6 := Lib.hid (S4.out.below (hb5.mono z4))
    have z5 := hb5.size
    clear hb5 hs5
    go_wp2_with fail
    refine (eqSrcs_any a3 a5 _ _ c3 c5 l _ _ w5 S6.out S5.out rfl rfl (by omega) (Nat.le_refl _)).mono ?_
    rintro e w6 ⟨rfl, hb6⟩
    have B6 := Lib.hid (B5.out.trans (hb6.mono (by omega)))
    clear hb6
    go_wp2
    go_ret
    exact ⟨rfl, B6.out⟩

set_option maxRecDepth 100000 in
theorem lifted (os : Os) (started : os.Started) (H : Type) (enc : TypeId × Value → H) :
    ReturnsInHanded {} Try.checked os 4 .any (Rows.fnExactAllMarksSpec.pre6 enc Try.prog Try.f4 Rows.fnExactAllMarksRow.domain false) (Rows.fnExactAllMarksSpec.post enc Try.prog Try.f4 false true false false) := by
  refine returnsInHanded_of_change (C := Try.checked) own started (by kernel_rfl) Try.func4
    (ChangeSpec.witness6 (enc := enc) (C := Try.checked) false ⟨#[], #[.slice none 0 0, .int .i64 0], []⟩ 8 (by kernel_rfl) (by kernel_rfl) (by kernel_rfl) (by kernel_rfl)) ?_
  intro W base args ds gs before hval0 hW hcnd _
  have hval : ∀ (j : Nat) t v, Try.f4.params[j]? = some t → args[j]? = some v → Value.okWide Try.prog W .any base t v := hval0
  have hW' := hW
  obtain ⟨p, q, hA0, hV, rfl, hfz, hnd⟩ := hW
  have hA : DataW.TrodAll enc Try.prog W 0 (fun _ => true) true Try.f4.params.toList args.toList ds p := hA0
  rw [Try.params4] at hA hval
  obtain ⟨v0, vs0, d0, ds0, p0, q0, hargs, rfl, rfl, h0, r0⟩ := trodAll_cons hA
  obtain ⟨v1, vs1, d1, ds1, p1, q1, rfl, rfl, rfl, h1, r1⟩ := trodAll_cons r0
  obtain ⟨rfl, rfl, rfl⟩ := trodAll_nil r1
  obtain rfl : args = #[v0, v1] := by cases args; simp_all
  obtain ⟨rfl, rfl⟩ := trodVars_none hV
  have lt0 : ∀ x ∈ p0, x.block < W.heap.size := by obtain ⟨m, hm⟩ := h0; exact DataW.trod_lt m _ _ _ hm
  obtain ⟨a0, n0, c0, rfl, l0, hn0, hs0⟩ := arg_srcs (hval 0 38 v0 rfl rfl) h0
  have lt1 : ∀ x ∈ p1, x.block < W.heap.size := by obtain ⟨m, hm⟩ := h1; exact DataW.trod_lt m _ _ _ hm
  obtain ⟨x1, rfl, hx1⟩ := arg_int (hval 1 3 v1 rfl rfl) h1
  clear hA0 hval0
  refine (walk W a0 n0 c0 l0 hn0 hs0 x1 hx1).mono fun e W' ⟨he, bel⟩ => ?_
  subst he
  exact ⟨_, rfl, _, _, _, [], _, [], hW', trodAll_mk1 (shut_bool Try.underlying4 _), (trodAll_cons_mk (Below.trod laidOut (by kernel_rfl) (of_decide_eq_true (by kernel_rfl)) h0 bel lt0) (trodAll_cons_mk (Below.trod laidOut (by kernel_rfl) (of_decide_eq_true (by kernel_rfl)) h1 bel lt1) trodAll_mk0)), rfl, bel.frame _, fun h => by cases h⟩

theorem over : Rows.fnExactAllMarksRow.holds Try.pinned (OpenSpec.ofChange Rows.fnExactAllMarksSpec) :=
  OpenClaim.holds_of_wide 4 Try.f4 rfl rfl rfl rfl rfl rfl rfl ⟨rfl, rfl, rfl, rfl, rfl⟩ rfl rfl rfl rfl rfl (by kernel_rfl) Try.func4 (by kernel_rfl)
    (of_decide_eq_true (by kernel_rfl)) (by unfold Func.isWrapper; first | (rw [if_pos (by decide +kernel)]; kernel_rfl) | (rw [if_neg (by decide +kernel)]; exact ⟨rfl, rfl⟩))
    (fun os started H enc _ => lifted os started H enc)

theorem proved : Rows.FnExactAllMarksSaid := over
#print axioms proved
end Go.Proofs.Ytcjmigjkjepkdaa.fnExactAllMarks
