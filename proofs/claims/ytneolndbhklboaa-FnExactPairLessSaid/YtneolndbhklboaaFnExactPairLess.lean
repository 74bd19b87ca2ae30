/- impl.PairLess answers as spec.PairLess at every two pairs: the law returns true, and its arguments read as before. No conditions. -/
import Derived.Test.YtneolndbhklboaaRows
import Derived.Test.YtneolndbhklboaaOpenPair
import Derived.Test.YtneolndbhklboaaCmpJ
import Derived.Test.YtneolndbhklboaaHeld3
import Derived.Test.YtneolndbhklboaaHeld
import Derived.WalkSmall
import Derived.WalkKit
import Derived.ProofKit
import Derived.OpenShut
import Derived.ShutString
import Derived.ChangeOld
import Derived.Below
namespace Go.Proofs.Ytneolndbhklboaa.fnExactPairLess
open Go.ChangeShapes Go.WideShapes Go.ChangeAt Go.RowKit
set_option linter.unusedVariables false

theorem own : ownKnob Try.prog.godebug = none := by kernel_rfl
theorem laidOut : laidOutB Try.prog = true := by kernel_rfl


set_option maxHeartbeats 4000000 in
set_option maxRecDepth 100000 in
theorem walk (w : World) (u0 u1 u2 u3 u4 v0 v1 v2 v3 v4 : Int) : Calls Try.prog 6 #[(.agg #[.int .i64 u0, .int .i64 u1, .int .i64 u2, .int .i64 u3, .int .i64 u4]), (.agg #[.int .i64 v0, .int .i64 v1, .int .i64 v2, .int .i64 v3, .int .i64 v4])] w fun e w' => e = .returned (.bool true) ∧ Below w.heap.size w w' := by
  have SP := Lib.hid (fun W => sPairLess_x u0 u1 u2 u3 u4 v0 v1 v2 v3 v4 W)
  have IP := Lib.hid (fun W => iPairLess_x u0 u1 u2 u3 u4 v0 v1 v2 v3 v4 W)
  generalize prLess ⟨u0, u1, u2, u3, u4⟩ ⟨v0, v1, v2, v3, v4⟩ = R at SP IP
  have hR : (R != R) = false := by simp
  have k0 := (Blk.new w 51 #[.int .i64 u0, .int .i64 u1, .int .i64 u2, .int .i64 u3, .int .i64 u4]).alloc (.cells #[.int .i64 v0, .int .i64 v1, .int .i64 v2, .int .i64 v3, .int .i64 v4] 51)
  have k1 := Blk.new (w.alloc (.cells #[.int .i64 u0, .int .i64 u1, .int .i64 u2, .int .i64 u3, .int .i64 u4] 51)) 51 #[.int .i64 v0, .int .i64 v1, .int .i64 v2, .int .i64 v3, .int .i64 v4]
  rw [World.size_alloc] at k1
  have b0 := ((Below.refl w.heap.size w).alloc (Nat.le_refl _) (.cells #[.int .i64 u0, .int .i64 u1, .int .i64 u2, .int .i64 u3, .int .i64 u4] 51)).alloc (by simp) (.cells #[.int .i64 v0, .int .i64 v1, .int .i64 v2, .int .i64 v3, .int .i64 v4] 51)
  have KA := Lib.hid k0
  have KB := Lib.hid k1
  have BB := Lib.hid b0
  clear k0 k1 b0
  go_enter Try.func6, Try.ntmps6
  go_upto_region 1 with fail
  generalize hW : World.alloc _ _ = W0 at KA KB BB ⊢
  clear hW
  go_cut [5] from 7 to 12 (fun x1 wx => x1 = .bool R ∧ Blk wx w.heap.size 51 #[.int .i64 u0, .int .i64 u1, .int .i64 u2, .int .i64 u3, .int .i64 u4] ∧ Blk wx (w.heap.size + 1) 51 #[.int .i64 v0, .int .i64 v1, .int .i64 v2, .int .i64 v3, .int .i64 v4] ∧ Below w.heap.size w wx)
  case first =>
    have KA := Lib.hid KA.out.drew
    have KB := Lib.hid KB.out.drew
    have BB := Lib.hid BB.out.drew
    have y0 : W0.drew.cell? ⟨w.heap.size, 0, none⟩ = some (.int .i64 u0) := KA.out.cell 0; have y1 : W0.drew.cell? ⟨w.heap.size, 1, none⟩ = some (.int .i64 u1) := KA.out.cell 1; have y2 : W0.drew.cell? ⟨w.heap.size, 2, none⟩ = some (.int .i64 u2) := KA.out.cell 2; have y3 : W0.drew.cell? ⟨w.heap.size, 3, none⟩ = some (.int .i64 u3) := KA.out.cell 3; have y4 : W0.drew.cell? ⟨w.heap.size, 4, none⟩ = some (.int .i64 u4) := KA.out.cell 4; have y5 : W0.drew.cell? ⟨w.heap.size + 1, 0, none⟩ = some (.int .i64 v0) := KB.out.cell 0; have y6 : W0.drew.cell? ⟨w.heap.size + 1, 1, none⟩ = some (.int .i64 v1) := KB.out.cell 1; have y7 : W0.drew.cell? ⟨w.heap.size + 1, 2, none⟩ = some (.int .i64 v2) := KB.out.cell 2; have y8 : W0.drew.cell? ⟨w.heap.size + 1, 3, none⟩ = some (.int .i64 v3) := KB.out.cell 3; have y9 : W0.drew.cell? ⟨w.heap.size + 1, 4, none⟩ = some (.int .i64 v4) := KB.out.cell 4
    go_region_held3 (fun W => W.cell? ⟨w.heap.size, 0, none⟩ = some (.int .i64 u0) ∧ W.cell? ⟨w.heap.size, 1, none⟩ = some (.int .i64 u1) ∧ W.cell? ⟨w.heap.size, 2, none⟩ = some (.int .i64 u2) ∧ W.cell? ⟨w.heap.size, 3, none⟩ = some (.int .i64 u3) ∧ W.cell? ⟨w.heap.size, 4, none⟩ = some (.int .i64 u4) ∧ W.cell? ⟨w.heap.size + 1, 0, none⟩ = some (.int .i64 v0) ∧ W.cell? ⟨w.heap.size + 1, 1, none⟩ = some (.int .i64 v1) ∧ W.cell? ⟨w.heap.size + 1, 2, none⟩ = some (.int .i64 v2) ∧ W.cell? ⟨w.heap.size + 1, 3, none⟩ = some (.int .i64 v3) ∧ W.cell? ⟨w.heap.size + 1, 4, none⟩ = some (.int .i64 v4))
      (exact ⟨y0, y1, y2, y3, y4, y5, y6, y7, y8, y9⟩)
      (first | (go_at_call 36; refine (toPair_x _ _ _ _ _ _).mono ?_; rintro e w1 ⟨rfl, hb⟩; have hsz := BB.out.size; have KA := Lib.hid (KA.out.below hb); have KB := Lib.hid (KB.out.below hb); have BB := Lib.hid (BB.out.trans (hb.mono hsz)); clear hb; have y0 : w1.cell? ⟨w.heap.size, 0, none⟩ = some (.int .i64 u0) := KA.out.cell 0; have y1 : w1.cell? ⟨w.heap.size, 1, none⟩ = some (.int .i64 u1) := KA.out.cell 1; have y2 : w1.cell? ⟨w.heap.size, 2, none⟩ = some (.int .i64 u2) := KA.out.cell 2; have y3 : w1.cell? ⟨w.heap.size, 3, none⟩ = some (.int .i64 u3) := KA.out.cell 3; have y4 : w1.cell? ⟨w.heap.size, 4, none⟩ = some (.int .i64 u4) := KA.out.cell 4; have y5 : w1.cell? ⟨w.heap.size + 1, 0, none⟩ = some (.int .i64 v0) := KB.out.cell 0; have y6 : w1.cell? ⟨w.heap.size + 1, 1, none⟩ = some (.int .i64 v1) := KB.out.cell 1; have y7 : w1.cell? ⟨w.heap.size + 1, 2, none⟩ = some (.int .i64 v2) := KB.out.cell 2; have y8 : w1.cell? ⟨w.heap.size + 1, 3, none⟩ = some (.int .i64 v3) := KB.out.cell 3; have y9 : w1.cell? ⟨w.heap.size + 1, 4, none⟩ = some (.int .i64 v4) := KB.out.cell 4) | (go_at_call 35; refine (SP.out _).mono ?_; rintro e w1 ⟨rfl, hb⟩; have hsz := BB.out.size; have KA := Lib.hid (KA.out.below hb); have KB := Lib.hid (KB.out.below hb); have BB := Lib.hid (BB.out.trans (hb.mono hsz)); clear hb; have y0 : w1.cell? ⟨w.heap.size, 0, none⟩ = some (.int .i64 u0) := KA.out.cell 0; have y1 : w1.cell? ⟨w.heap.size, 1, none⟩ = some (.int .i64 u1) := KA.out.cell 1; have y2 : w1.cell? ⟨w.heap.size, 2, none⟩ = some (.int .i64 u2) := KA.out.cell 2; have y3 : w1.cell? ⟨w.heap.size, 3, none⟩ = some (.int .i64 u3) := KA.out.cell 3; have y4 : w1.cell? ⟨w.heap.size, 4, none⟩ = some (.int .i64 u4) := KA.out.cell 4; have y5 : w1.cell? ⟨w.heap.size + 1, 0, none⟩ = some (.int .i64 v0) := KB.out.cell 0; have y6 : w1.cell? ⟨w.heap.size + 1, 1, none⟩ = some (.int .i64 v1) := KB.out.cell 1; have y7 : w1.cell? ⟨w.heap.size + 1, 2, none⟩ = some (.int .i64 v2) := KB.out.cell 2; have y8 : w1.cell? ⟨w.heap.size + 1, 3, none⟩ = some (.int .i64 v3) := KB.out.cell 3; have y9 : w1.cell? ⟨w.heap.size + 1, 4, none⟩ = some (.int .i64 v4) := KB.out.cell 4))
    all_goals
      clear y0 y1 y2 y3 y4 y5 y6 y7 y8 y9
      go_wp2
      go_meet
      case rel => exact ⟨rfl, KA.out, KB.out, BB.out⟩
  case rest =>
    obtain ⟨rfl, ka, kb, bb⟩ := hcut
    rename World => W1
    clear KA KB BB
    have KA := Lib.hid ka
    have KB := Lib.hid kb
    have BB := Lib.hid bb
    clear ka kb bb
    go_upto_region 2 with fail
    have KA := Lib.hid KA.out.drew
    have KB := Lib.hid KB.out.drew
    have BB := Lib.hid BB.out.drew
    have y0 : W1.drew.cell? ⟨w.heap.size, 0, none⟩ = some (.int .i64 u0) := KA.out.cell 0; have y1 : W1.drew.cell? ⟨w.heap.size, 1, none⟩ = some (.int .i64 u1) := KA.out.cell 1; have y2 : W1.drew.cell? ⟨w.heap.size, 2, none⟩ = some (.int .i64 u2) := KA.out.cell 2; have y3 : W1.drew.cell? ⟨w.heap.size, 3, none⟩ = some (.int .i64 u3) := KA.out.cell 3; have y4 : W1.drew.cell? ⟨w.heap.size, 4, none⟩ = some (.int .i64 u4) := KA.out.cell 4; have y5 : W1.drew.cell? ⟨w.heap.size + 1, 0, none⟩ = some (.int .i64 v0) := KB.out.cell 0; have y6 : W1.drew.cell? ⟨w.heap.size + 1, 1, none⟩ = some (.int .i64 v1) := KB.out.cell 1; have y7 : W1.drew.cell? ⟨w.heap.size + 1, 2, none⟩ = some (.int .i64 v2) := KB.out.cell 2; have y8 : W1.drew.cell? ⟨w.heap.size + 1, 3, none⟩ = some (.int .i64 v3) := KB.out.cell 3; have y9 : W1.drew.cell? ⟨w.heap.size + 1, 4, none⟩ = some (.int .i64 v4) := KB.out.cell 4
    go_region_held3 (fun W => W.cell? ⟨w.heap.size, 0, none⟩ = some (.int .i64 u0) ∧ W.cell? ⟨w.heap.size, 1, none⟩ = some (.int .i64 u1) ∧ W.cell? ⟨w.heap.size, 2, none⟩ = some (.int .i64 u2) ∧ W.cell? ⟨w.heap.size, 3, none⟩ = some (.int .i64 u3) ∧ W.cell? ⟨w.heap.size, 4, none⟩ = some (.int .i64 u4) ∧ W.cell? ⟨w.heap.size + 1, 0, none⟩ = some (.int .i64 v0) ∧ W.cell? ⟨w.heap.size + 1, 1, none⟩ = some (.int .i64 v1) ∧ W.cell? ⟨w.heap.size + 1, 2, none⟩ = some (.int .i64 v2) ∧ W.cell? ⟨w.heap.size + 1, 3, none⟩ = some (.int .i64 v3) ∧ W.cell? ⟨w.heap.size + 1, 4, none⟩ = some (.int .i64 v4))
      (exact ⟨y0, y1, y2, y3, y4, y5, y6, y7, y8, y9⟩)
      (first | (go_at_call 36; refine (toPair_x _ _ _ _ _ _).mono ?_; rintro e w1 ⟨rfl, hb⟩; have hsz := BB.out.size; have KA := Lib.hid (KA.out.below hb); have KB := Lib.hid (KB.out.below hb); have BB := Lib.hid (BB.out.trans (hb.mono hsz)); clear hb; have y0 : w1.cell? ⟨w.heap.size, 0, none⟩ = some (.int .i64 u0) := KA.out.cell 0; have y1 : w1.cell? ⟨w.heap.size, 1, none⟩ = some (.int .i64 u1) := KA.out.cell 1; have y2 : w1.cell? ⟨w.heap.size, 2, none⟩ = some (.int .i64 u2) := KA.out.cell 2; have y3 : w1.cell? ⟨w.heap.size, 3, none⟩ = some (.int .i64 u3) := KA.out.cell 3; have y4 : w1.cell? ⟨w.heap.size, 4, none⟩ = some (.int .i64 u4) := KA.out.cell 4; have y5 : w1.cell? ⟨w.heap.size + 1, 0, none⟩ = some (.int .i64 v0) := KB.out.cell 0; have y6 : w1.cell? ⟨w.heap.size + 1, 1, none⟩ = some (.int .i64 v1) := KB.out.cell 1; have y7 : w1.cell? ⟨w.heap.size + 1, 2, none⟩ = some (.int .i64 v2) := KB.out.cell 2; have y8 : w1.cell? ⟨w.heap.size + 1, 3, none⟩ = some (.int .i64 v3) := KB.out.cell 3; have y9 : w1.cell? ⟨w.heap.size + 1, 4, none⟩ = some (.int .i64 v4) := KB.out.cell 4) | (go_at_call 37; refine (IP.out _).mono ?_; rintro e w1 ⟨rfl, hb⟩; have hsz := BB.out.size; have KA := Lib.hid (KA.out.below hb); have KB := Lib.hid (KB.out.below hb); have BB := Lib.hid (BB.out.trans (hb.mono hsz)); clear hb; have y0 : w1.cell? ⟨w.heap.size, 0, none⟩ = some (.int .i64 u0) := KA.out.cell 0; have y1 : w1.cell? ⟨w.heap.size, 1, none⟩ = some (.int .i64 u1) := KA.out.cell 1; have y2 : w1.cell? ⟨w.heap.size, 2, none⟩ = some (.int .i64 u2) := KA.out.cell 2; have y3 : w1.cell? ⟨w.heap.size, 3, none⟩ = some (.int .i64 u3) := KA.out.cell 3; have y4 : w1.cell? ⟨w.heap.size, 4, none⟩ = some (.int .i64 u4) := KA.out.cell 4; have y5 : w1.cell? ⟨w.heap.size + 1, 0, none⟩ = some (.int .i64 v0) := KB.out.cell 0; have y6 : w1.cell? ⟨w.heap.size + 1, 1, none⟩ = some (.int .i64 v1) := KB.out.cell 1; have y7 : w1.cell? ⟨w.heap.size + 1, 2, none⟩ = some (.int .i64 v2) := KB.out.cell 2; have y8 : w1.cell? ⟨w.heap.size + 1, 3, none⟩ = some (.int .i64 v3) := KB.out.cell 3; have y9 : w1.cell? ⟨w.heap.size + 1, 4, none⟩ = some (.int .i64 v4) := KB.out.cell 4))
    all_goals
      clear y0 y1 y2 y3 y4 y5 y6 y7 y8 y9
      go_wp2
      go_ret
      exact ⟨by simp [go_sem], BB.out⟩

set_option maxRecDepth 100000 in
theorem lifted (os : Os) (started : os.Started) (H : Type) (enc : TypeId × Value → H) :
    ReturnsInHanded {} Try.checked os 6 .any (Rows.fnExactPairLessSpec.pre6 enc Try.prog Try.f6 Rows.fnExactPairLessRow.domain false) (Rows.fnExactPairLessSpec.post enc Try.prog Try.f6 false true false false) := by
  refine returnsInHanded_of_change (C := Try.checked) own started (by kernel_rfl) Try.func6
    (ChangeSpec.witness6 (enc := enc) (C := Try.checked) false ⟨#[], #[(.agg #[.int .i64 0, .int .i64 0, .int .i64 0, .int .i64 0, .int .i64 0]), (.agg #[.int .i64 0, .int .i64 0, .int .i64 0, .int .i64 0, .int .i64 0])], []⟩ 8 (by kernel_rfl) (by kernel_rfl) (by kernel_rfl) (by kernel_rfl)) ?_
  intro W base args ds gs before hval0 hW hcnd _
  have hval : ∀ (j : Nat) t v, Try.f6.params[j]? = some t → args[j]? = some v → Value.okWide Try.prog W .any base t v := hval0
  have hW' := hW
  obtain ⟨p, q, hA0, hV, rfl, hfz, hnd⟩ := hW
  have hA : DataW.TrodAll enc Try.prog W 0 (fun _ => true) true Try.f6.params.toList args.toList ds p := hA0
  rw [Try.params6] at hA hval
  obtain ⟨v0, vs0, d0, ds0, p0, q0, hargs, rfl, rfl, h0, r0⟩ := trodAll_cons hA
  obtain ⟨v1, vs1, d1, ds1, p1, q1, rfl, rfl, rfl, h1, r1⟩ := trodAll_cons r0
  obtain ⟨rfl, rfl, rfl⟩ := trodAll_nil r1
  obtain rfl : args = #[v0, v1] := by cases args; simp_all
  obtain ⟨rfl, rfl⟩ := trodVars_none hV
  have lt0 : ∀ x ∈ p0, x.block < W.heap.size := by obtain ⟨m, hm⟩ := h0; exact DataW.trod_lt m _ _ _ hm
  obtain ⟨f00, f01, f02, f03, f04, rfl⟩ := arg_pair (hval 0 51 v0 rfl rfl) h0
  have lt1 : ∀ x ∈ p1, x.block < W.heap.size := by obtain ⟨m, hm⟩ := h1; exact DataW.trod_lt m _ _ _ hm
  obtain ⟨f10, f11, f12, f13, f14, rfl⟩ := arg_pair (hval 1 51 v1 rfl rfl) h1
  clear hA0 hval0
  refine (walk W f00 f01 f02 f03 f04 f10 f11 f12 f13 f14).mono fun e W' ⟨he, bel⟩ => ?_
  subst he
  exact ⟨_, rfl, _, _, _, [], _, [], hW', trodAll_mk1 (shut_bool Try.underlying4 _), (trodAll_cons_mk (Below.trod laidOut (by kernel_rfl) (of_decide_eq_true (by kernel_rfl)) h0 bel lt0) (trodAll_cons_mk (Below.trod laidOut (by kernel_rfl) (of_decide_eq_true (by kernel_rfl)) h1 bel lt1) trodAll_mk0)), rfl, bel.frame _, fun h => by cases h⟩

theorem over : Rows.fnExactPairLessRow.holds Try.pinned (OpenSpec.ofChange Rows.fnExactPairLessSpec) :=
  OpenClaim.holds_of_wide 6 Try.f6 rfl rfl rfl rfl rfl rfl rfl ⟨rfl, rfl, rfl, rfl, rfl⟩ rfl rfl rfl rfl rfl (by kernel_rfl) Try.func6 (by kernel_rfl)
    (of_decide_eq_true (by kernel_rfl)) (by unfold Func.isWrapper; first | (rw [if_pos (by decide +kernel)]; kernel_rfl) | (rw [if_neg (by decide +kernel)]; exact ⟨rfl, rfl⟩))
    (fun os started H enc _ => lifted os started H enc)

theorem proved : Rows.FnExactPairLessSaid := over
#print axioms proved
end Go.Proofs.Ytneolndbhklboaa.fnExactPairLess
