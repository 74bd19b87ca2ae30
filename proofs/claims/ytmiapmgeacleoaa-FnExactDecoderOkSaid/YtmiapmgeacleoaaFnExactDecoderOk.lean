/- impl.DecoderOk answers as spec.DecoderOk at every decoder of up to 1048576 bytes (beyond, the law says nothing), and leaves it as it was. No conditions. -/
import Derived.Test.YtmiapmgeacleoaaRows
import Derived.Test.YtmiapmgeacleoaaOpen
import Derived.Test.YtmiapmgeacleoaaByteS
import Derived.Test.YtmiapmgeacleoaaDecS
import Derived.Test.YtmiapmgeacleoaaHeld
import Derived.WalkSmall
import Derived.WalkKit
import Derived.ProofKit
import Derived.OpenShut
import Derived.ShutString
import Derived.ChangeOld
import Derived.Below
namespace Go.Proofs.Ytmiapmgeacleoaa.fnExactDecoderOk
open Go.ChangeShapes Go.WideShapes Go.ChangeAt Go.RowKit
set_option linter.unusedVariables false

theorem own : ownKnob Try.prog.godebug = none := by kernel_rfl
theorem laidOut : laidOutB Try.prog = true := by kernel_rfl


theorem walk (w : World) (a : Option Addr) (n c : Nat) (b : Bool) (xs : List Int) (hn : n = xs.length) (hx : IsB xs) (hs : Nums .u8 w w.heap.size a c xs) :
    Calls Try.prog 6 #[.agg #[.slice a n c, .bool b]] w fun e w' => e = .returned (.bool true) ∧ Below w.heap.size w w' := by
  have hc1 := hs.cap
  have hc2 := hs.big
  subst hn
  have HZ := Lib.hid (fun W => szDecoder_any a xs.length c b W (by omega))
  have k0 := Blk.new w 36 #[.slice a xs.length c, .bool b]
  have b0 := (Below.refl w.heap.size w).alloc (Nat.le_refl _) (.cells #[.slice a xs.length c, .bool b] 36)
  have S0 := Lib.hid (hs.below b0)
  have B0 := Lib.hid b0
  have K0 := Lib.hid k0
  have HN := hc2
  clear hs k0 b0 hx
  by_cases hbig : 1048576 < xs.length
  · rw [if_pos (by omega)] at HZ
    go_enter Try.func6, Try.ntmps6
    go_wp2_with fail
    refine (HZ.out _).mono ?_
    rintro e w1 ⟨rfl, hb⟩
    have B1 := Lib.hid (B0.out.trans (hb.mono (by simp)))
    clear hb
    go_wp2
    go_ret
    exact ⟨rfl, B1.out⟩
  · have hle : xs.length ≤ 1048576 := by omega
    rw [if_neg (by omega)] at HZ
    go_enter Try.func6, Try.ntmps6
    go_wp2_with fail
    refine (HZ.out _).mono ?_
    rintro e w1 ⟨rfl, hb⟩
    have B1 := Lib.hid (B0.out.trans (hb.mono (by simp)))
    have S1 := Lib.hid (S0.out.below (hb.mono (by simp)))
    have k1 := K0.out.below hb
    have q1 := k1.cell
    have s1 := B1.out.size
    have K1 := Lib.hid k1
    clear hb k1
    go_wp2_with fail
    refine (toDecoder_any a _ c b xs _ _ S1.out rfl s1 hle).mono ?_
    rintro e w2 ⟨a2, c2, rfl, ho, hb⟩
    have B2 := Lib.hid (below_next B1.out hb)
    have S2 := Lib.hid (S1.out.below (hb.mono s1))
    have k2 := K1.out.below hb
    have s2 := B2.out.size
    have K2 := Lib.hid k2
    clear hb k2 q1 ho
    go_wp2_with fail
    refine (specDecOk_any _ _ _ _ _ (by omega)).mono ?_
    rintro e w3 ⟨rfl, hb⟩
    have B3 := Lib.hid (below_next B2.out hb)
    have S3 := Lib.hid (S2.out.below (hb.mono s2))
    have k3 := K2.out.below hb
    have q3 := k3.cell
    have s3 := B3.out.size
    have K3 := Lib.hid k3
    clear hb k3
    go_wp2_with fail
    refine (toDecoder_any a _ c b xs _ _ S3.out rfl s3 hle).mono ?_
    rintro e w4 ⟨a4, c4, rfl, ho, hb⟩
    have B4 := Lib.hid (below_next B3.out hb)
    have S4 := Lib.hid (S3.out.below (hb.mono s3))
    have k4 := K3.out.below hb
    have s4 := B4.out.size
    have K4 := Lib.hid k4
    have X4 := Lib.hid ho
    clear hb k4 q3 ho
    have x4 := Blk.new w4 39 #[.slice a4 xs.length c4, .bool b]
    have B5 := Lib.hid (B4.out.alloc B4.out.size (.cells #[.slice a4 xs.length c4, .bool b] 39))
    have S5 := Lib.hid (S4.out.below ((Below.refl w.heap.size w4).alloc s4 (.cells #[.slice a4 xs.length c4, .bool b] 39)))
    have k5 := K4.out.alloc (.cells #[.slice a4 xs.length c4, .bool b] 39)
    have X5 := Lib.hid (X4.out.alloc (.cells #[.slice a4 xs.length c4, .bool b] 39))
    have K5 := Lib.hid k5
    have x5 := Lib.hid x4
    clear k5 x4
    go_wp2_with fail
    refine (implDecOk_any _ _ _ _ _ (by omega)).mono ?_
    rintro e w6 ⟨rfl, hb⟩
    have B6 := Lib.hid (B5.out.trans (hb.mono (by simp; omega)))
    have S6 := Lib.hid (S5.out.below (hb.mono (by simp; omega)))
    have k6 := K5.out.below hb
    have x6 := x5.out.below hb
    have X6 := Lib.hid (owns_below X5.out hb)
    have s6 := B6.out.size
    have qk := k6.cell
    have qx := x6.cell
    have K6 := Lib.hid k6
    have Y6 := Lib.hid x6
    have hbb : (dOk xs.length b != dOk xs.length b) = false := by simp
    clear hb k6 x6
    go_wp2_with fail
    go_region_held3 (fun W => W.cell? ⟨w.heap.size, 0, none⟩ = some (.slice a xs.length c) ∧ W.cell? ⟨w.heap.size, 1, none⟩ = some (.bool b) ∧ W.cell? ⟨w4.heap.size, 0, none⟩ = some (.slice a4 xs.length c4) ∧ W.cell? ⟨w4.heap.size, 1, none⟩ = some (.bool b))
      (first | (simp [qk, qx]; done) | (simp [qk7, qx7]; done) | (simp [qk8, qx8]; done))
      (first
        | (go_at_call 21; refine (toDecoder_any a _ c b xs _ _ (S6.out.below ((Below.refl _ _).drew)) rfl s6 hle).mono ?_; rintro e w7 ⟨a7, c7, rfl, ho, hb⟩; have B7 := Lib.hid (below_next B6.out.drew hb); have k7 := K6.out.drew.below hb; have y7 := Y6.out.drew.below hb; have qk7 := k7.cell; have qx7 := y7.cell; have K7 := Lib.hid k7; have Y7 := Lib.hid y7; clear k7 y7; have X7 := Lib.hid (owns_below X6.out.drew hb); have O7 := Lib.hid ho; clear hb ho qk qx)
        | (go_at_call 23; refine (eqDecoder_any _ _ _ _ _ _ b xs _ _ _ (Nums.of_own X7.out).2 (Nums.of_own O7.out).2 rfl rfl (Nat.le_refl _) (Nat.le_refl _)).mono ?_; rintro e w8 ⟨rfl, hb⟩; have qk8 := (K7.out.below hb).cell; have qx8 := (Y7.out.below hb).cell; clear qk7 qx7; have B8 := Lib.hid (below_next B7.out hb); clear hb))
    go_wp2
    go_ret
    exact ⟨rfl, B8.out⟩

set_option maxRecDepth 100000 in
theorem lifted (os : Os) (started : os.Started) (H : Type) (enc : TypeId × Value → H) :
    ReturnsInHanded {} Try.checked os 6 .any (Rows.fnExactDecoderOkSpec.pre6 enc Try.prog Try.f6 Rows.fnExactDecoderOkRow.domain false) (Rows.fnExactDecoderOkSpec.post enc Try.prog Try.f6 false true false false) := by
  refine returnsInHanded_of_change (C := Try.checked) own started (by kernel_rfl) Try.func6
    (ChangeSpec.witness6 (enc := enc) (C := Try.checked) false ⟨#[], #[.agg #[.slice none 0 0, .bool false]], []⟩ 8 (by kernel_rfl) (by kernel_rfl) (by kernel_rfl) (by kernel_rfl)) ?_
  intro W base args ds gs before hval0 hW hcnd _
  have hval : ∀ (j : Nat) t v, Try.f6.params[j]? = some t → args[j]? = some v → Value.okWide Try.prog W .any base t v := hval0
  have hW' := hW
  obtain ⟨p, q, hA0, hV, rfl, hfz, hnd⟩ := hW
  have hA : DataW.TrodAll enc Try.prog W 0 (fun _ => true) true Try.f6.params.toList args.toList ds p := hA0
  rw [Try.params6] at hA hval
  obtain ⟨v0, vs0, d0, ds0, p0, q0, hargs, rfl, rfl, h0, r0⟩ := trodAll_cons hA
  obtain ⟨rfl, rfl, rfl⟩ := trodAll_nil r0
  obtain rfl : args = #[v0] := by cases args; simp_all
  obtain ⟨rfl, rfl⟩ := trodVars_none hV
  have lt0 : ∀ x ∈ p0, x.block < W.heap.size := by obtain ⟨m, hm⟩ := h0; exact DataW.trod_lt m _ _ _ hm
  obtain ⟨a0, n0, c0, b0, rfl, xs0, hn0, hb0, hs0⟩ := arg_decoder (hval 0 36 v0 rfl rfl) h0
  clear hA0 hval0
  refine (walk W a0 n0 c0 b0 xs0 hn0 hb0 hs0).mono fun e W' ⟨he, bel⟩ => ?_
  subst he
  exact ⟨_, rfl, _, _, _, [], _, [], hW', trodAll_mk1 (shut_bool Try.underlying4 _), (trodAll_cons_mk (Below.trod laidOut (by kernel_rfl) (of_decide_eq_true (by kernel_rfl)) h0 bel lt0) trodAll_mk0), rfl, bel.frame _, fun h => by cases h⟩

theorem over : Rows.fnExactDecoderOkRow.holds Try.pinned (OpenSpec.ofChange Rows.fnExactDecoderOkSpec) :=
  OpenClaim.holds_of_wide 6 Try.f6 rfl rfl rfl rfl rfl rfl rfl ⟨rfl, rfl, rfl, rfl, rfl⟩ rfl rfl rfl rfl rfl (by kernel_rfl) Try.func6 (by kernel_rfl)
    (of_decide_eq_true (by kernel_rfl)) (by unfold Func.isWrapper; first | (rw [if_pos (by decide +kernel)]; kernel_rfl) | (rw [if_neg (by decide +kernel)]; exact ⟨rfl, rfl⟩))
    (fun os started H enc _ => lifted os started H enc)

theorem proved : Rows.FnExactDecoderOkSaid := over
#print axioms proved
end Go.Proofs.Ytmiapmgeacleoaa.fnExactDecoderOk
