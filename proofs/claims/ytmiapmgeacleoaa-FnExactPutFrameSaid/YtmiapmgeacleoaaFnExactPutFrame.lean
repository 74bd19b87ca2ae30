/- impl.PutFrame answers as spec.PutFrame at every frame, in memory of its own: the law FnExactPutFrame returns true for all four numbers, and its argument reads as before. No conditions. -/
import Derived.Test.YtmiapmgeacleoaaRows
import Derived.Test.YtmiapmgeacleoaaOpen
import Derived.Test.YtmiapmgeacleoaaImplPut
import Derived.Test.YtmiapmgeacleoaaSpecPut
import Derived.Test.YtmiapmgeacleoaaMark
import Derived.WalkSmall
import Derived.WalkKit
import Derived.ProofKit
import Derived.OpenShut
import Derived.ShutString
import Derived.ChangeOld
import Derived.Below
namespace Go.Proofs.Ytmiapmgeacleoaa.fnExactPutFrame
open Go.ChangeShapes Go.WideShapes Go.ChangeAt Go.RowKit
set_option linter.unusedVariables false

theorem own : ownKnob Try.prog.godebug = none := by kernel_rfl
theorem laidOut : laidOutB Try.prog = true := by kernel_rfl


theorem walk (w : World) (k y t v : Int) :
    Calls Try.prog 5 #[(.agg #[.int .i64 k, .int .i64 y, .int .i64 t, .int .i64 v])] w fun e w' => e = .returned (.bool true) ∧ Below w.heap.size w w' := by
  have k0 := Blk.new w 23 #[.int .i64 k, .int .i64 y, .int .i64 t, .int .i64 v]
  have B0 := Lib.hid ((Below.refl w.heap.size w).alloc (Nat.le_refl _) (.cells #[.int .i64 k, .int .i64 y, .int .i64 t, .int .i64 v] 23))
  have K0 := Lib.hid k0
  have HL := Lib.hid (putL_len k y t v)
  have hlen := putL_len k y t v
  have SP := Lib.hid (specPut_any k y t v)
  have IP := Lib.hid (implPut_any k y t v)
  generalize putL k y t v = L at hlen SP IP
  clear k0 HL
  go_enter Try.func5, Try.ntmps5
  go_wp2_with fail
  refine (toFrame_any k y t v _).mono ?_
  rintro e w1 ⟨rfl, hb⟩
  have B1 := Lib.hid (B0.out.trans (hb.mono (by simp)))
  have k1 := K0.out.below hb
  clear hb
  go_wp2_with fail
  refine (SP.out _).mono ?_
  rintro e w2 ⟨a2, c2, rfl, ho, hb⟩
  have B2 := Lib.hid (below_next B1.out hb)
  have k2 := k1.below hb
  have q2 := k2.cell
  have N2 := Lib.hid (Nums.of_own ho).2
  have z2 := k2.lt
  have K2 := Lib.hid k2
  clear hb k1 k2 ho
  go_wp2_with fail
  refine (toFrame_any k y t v _).mono ?_
  rintro e w3 ⟨rfl, hb⟩
  have B3 := Lib.hid (below_next B2.out hb)
  have k3 := K2.out.below hb
  have N3 := Lib.hid (N2.out.below hb)
  have s3 := hb.size
  have K3 := Lib.hid k3
  clear hb q2 k3
  go_wp2_with fail
  refine (IP.out _).mono ?_
  rintro e w4 ⟨a4, c4, rfl, ho, hb⟩
  have B4 := Lib.hid (below_next B3.out hb)
  have k4 := K3.out.below hb
  have N4 := Lib.hid (N3.out.below (hb.mono s3))
  have G4 := Lib.hid ho
  have s4 := hb.size
  have K4 := Lib.hid k4
  clear hb k4 ho
  go_wp2_with fail
  refine (eqBytes_any _ _ _ _ _ _ L _ _ _ (Nums.of_own G4.out).2 N4.out rfl rfl).mono ?_
  rintro e w' ⟨rfl, nd, rfl⟩
  go_wp2_with fail
  refine (markBytes_m _ _ _ 1 _ L w3.heap.size _ (owns_drewN G4.out nd) rfl rfl (by simpa using s4) (by omega) (by omega)).mono ?_
  rintro e w5 ⟨rfl, hm⟩
  have M5 := Lib.hid hm
  have B5 := Lib.hid ((below_drewN B4.out nd).trans (hm.below.mono B3.out.size))
  have k5 := K4.out.belowB (below_trans0 hm.below) (by omega)
  have q5 := k5.cell
  have N5 := Lib.hid (N4.out.below ((below_trans0 hm.below).mono s3))
  have s5 := hm.below.size
  have K5 := Lib.hid k5
  clear hm k5
  go_wp2_with fail
  refine (heldBytes_m _ _ _ 1 _ _ _ (Nums.of_marks M5.out) rfl (by omega) (by omega)).mono ?_
  rintro e w' ⟨rfl, rfl⟩
  go_wp2_with fail
  refine (toFrame_any k y t v _).mono ?_
  rintro e w6 ⟨rfl, hb⟩
  have B6 := Lib.hid (below_next B5.out hb)
  have N6 := Lib.hid (N5.out.below (hb.mono (by simp at s5; omega)))
  have G6 := Lib.hid (owns_below M5.out.own hb)
  have s6 := hb.size
  clear hb q5
  go_wp2_with fail
  refine (IP.out _).mono ?_
  rintro e w7 ⟨a7, c7, rfl, ho, hb⟩
  have B7 := Lib.hid (below_next B6.out hb)
  have N7 := Lib.hid (N6.out.below (hb.mono (by simp at s5; omega)))
  have G7 := Lib.hid (owns_below G6.out hb)
  have H7 := Lib.hid ho
  clear hb ho
  go_wp2_with fail
  refine (eqBytes_any _ _ _ _ _ _ L _ _ _ (Nums.of_own H7.out).2 N7.out rfl rfl).mono ?_
  rintro e w' ⟨rfl, nd2, rfl⟩
  go_wp2_with fail
  refine (heldBytes_m _ _ _ 1 _ _ _ (Nums.of_own (owns_drewN G7.out nd2)).2 rfl (by omega) (by omega)).mono ?_
  rintro e w' ⟨rfl, rfl⟩
  go_wp2
  go_ret
  exact ⟨rfl, below_drewN B7.out nd2⟩

set_option maxRecDepth 100000 in
theorem lifted (os : Os) (started : os.Started) (H : Type) (enc : TypeId × Value → H) :
    ReturnsInHanded {} Try.checked os 5 .any (Rows.fnExactPutFrameSpec.pre6 enc Try.prog Try.f5 Rows.fnExactPutFrameRow.domain false) (Rows.fnExactPutFrameSpec.post enc Try.prog Try.f5 false true false false) := by
  refine returnsInHanded_of_change (C := Try.checked) own started (by kernel_rfl) Try.func5
    (ChangeSpec.witness6 (enc := enc) (C := Try.checked) false ⟨#[], #[(.agg #[.int .i64 0, .int .i64 0, .int .i64 0, .int .i64 0])], []⟩ 8 (by kernel_rfl) (by kernel_rfl) (by kernel_rfl) (by kernel_rfl)) ?_
  intro W base args ds gs before hval0 hW hcnd _
  have hval : ∀ (j : Nat) t v, Try.f5.params[j]? = some t → args[j]? = some v → Value.okWide Try.prog W .any base t v := hval0
  have hW' := hW
  obtain ⟨p, q, hA0, hV, rfl, hfz, hnd⟩ := hW
  have hA : DataW.TrodAll enc Try.prog W 0 (fun _ => true) true Try.f5.params.toList args.toList ds p := hA0
  rw [Try.params5] at hA hval
  obtain ⟨v0, vs0, d0, ds0, p0, q0, hargs, rfl, rfl, h0, r0⟩ := trodAll_cons hA
  obtain ⟨rfl, rfl, rfl⟩ := trodAll_nil r0
  obtain rfl : args = #[v0] := by cases args; simp_all
  obtain ⟨rfl, rfl⟩ := trodVars_none hV
  have lt0 : ∀ x ∈ p0, x.block < W.heap.size := by obtain ⟨m, hm⟩ := h0; exact DataW.trod_lt m _ _ _ hm
  obtain ⟨k0, y0, t0, u0, rfl⟩ := arg_frame (hval 0 23 v0 rfl rfl) h0
  clear hA0 hval0
  refine (walk W k0 y0 t0 u0).mono fun e W' ⟨he, bel⟩ => ?_
  subst he
  exact ⟨_, rfl, _, _, _, [], _, [], hW', trodAll_mk1 (shut_bool Try.underlying4 _), (trodAll_cons_mk (Below.trod laidOut (by kernel_rfl) (of_decide_eq_true (by kernel_rfl)) h0 bel lt0) trodAll_mk0), rfl, bel.frame _, fun h => by cases h⟩

theorem over : Rows.fnExactPutFrameRow.holds Try.pinned (OpenSpec.ofChange Rows.fnExactPutFrameSpec) :=
  OpenClaim.holds_of_wide 5 Try.f5 rfl rfl rfl rfl rfl rfl rfl ⟨rfl, rfl, rfl, rfl, rfl⟩ rfl rfl rfl rfl rfl (by kernel_rfl) Try.func5 (by kernel_rfl)
    (of_decide_eq_true (by kernel_rfl)) (by unfold Func.isWrapper; first | (rw [if_pos (by decide +kernel)]; kernel_rfl) | (rw [if_neg (by decide +kernel)]; exact ⟨rfl, rfl⟩))
    (fun os started H enc _ => lifted os started H enc)

theorem proved : Rows.FnExactPutFrameSaid := over
#print axioms proved
end Go.Proofs.Ytmiapmgeacleoaa.fnExactPutFrame
