/- impl.Check answers as spec.Check at every list of bytes (up to 1048576 of them: beyond, the law says nothing), and leaves it as it was. No conditions. -/
import Derived.Test.YtmiapmgeacleoaaRows
import Derived.Test.YtmiapmgeacleoaaOpen
import Derived.Test.YtmiapmgeacleoaaByteS
import Derived.Test.YtmiapmgeacleoaaCheck
import Derived.WalkSmall
import Derived.WalkKit
import Derived.ProofKit
import Derived.OpenShut
import Derived.ShutString
import Derived.ChangeOld
import Derived.Below
namespace Go.Proofs.Ytmiapmgeacleoaa.fnExactCheck
open Go.ChangeShapes Go.WideShapes Go.ChangeAt Go.RowKit
set_option linter.unusedVariables false

theorem own : ownKnob Try.prog.godebug = none := by kernel_rfl
theorem laidOut : laidOutB Try.prog = true := by kernel_rfl


theorem walk (w : World) (a : Option Addr) (n c : Nat) (xs : List Int) (hn : n = xs.length) (hx : IsB xs) (hs : Nums .u8 w w.heap.size a c xs) :
    Calls Try.prog 4 #[.slice a n c] w fun e w' => e = .returned (.bool true) ∧ Below w.heap.size w w' := by
  have hc1 := hs.cap
  have hc2 := hs.big
  subst hn
  have HS := Lib.hid hs
  have HX := Lib.hid hx
  clear hs hx
  by_cases hbig : 1048576 < xs.length
  · go_enter Try.func4, Try.ntmps4
    go_wp2
    go_ret
    exact ⟨rfl, Below.refl _ _⟩
  · have hle : xs.length ≤ 1048576 := by omega
    go_enter Try.func4, Try.ntmps4
    go_wp2_with fail
    refine (toBytes_any a _ c xs _ _ HS.out rfl (Nat.le_refl _) hle).mono ?_
    rintro e w1 ⟨a1, c1, rfl, ho1, hb1⟩
    have HN1 := Lib.hid (Nums.of_own ho1).2
    have HS1 := Lib.hid (HS.out.below hb1)
    have HB1 := Lib.hid hb1
    clear ho1 hb1
    go_wp2_with fail
    refine (specCheck_any _ _ _ xs _ _ HN1.out rfl HX.out).mono ?_
    rintro e w' ⟨rfl, rfl⟩
    go_wp2_with fail
    refine (toBytes_any a _ c xs _ _ HS1.out rfl HB1.out.size hle).mono ?_
    rintro e w2 ⟨a2, c2, rfl, ho2, hb2⟩
    have HN2 := Lib.hid (Nums.of_own ho2).2
    have HS2 := Lib.hid (HS1.out.below (hb2.mono HB1.out.size))
    have HB2 := Lib.hid (below_next HB1.out hb2)
    clear ho2 hb2
    go_wp2_with fail
    refine (implCheck_any _ _ _ xs _ _ HN2.out rfl HX.out).mono ?_
    rintro e w' ⟨rfl, rfl⟩
    have hq : (crc xs != crc xs) = false := by simp
    go_wp2_with fail
    refine (toBytes_any a _ c xs _ _ HS2.out rfl HB2.out.size hle).mono ?_
    rintro e w3 ⟨a3, c3, rfl, ho3, hb3⟩
    have HN3 := Lib.hid (Nums.of_own ho3).2
    have HM2 := Lib.hid (HN2.out.below hb3)
    have HB3 := Lib.hid (below_next HB2.out hb3)
    clear ho3 hb3
    go_wp2_with fail
    refine (eqBytes_any _ _ _ _ _ _ xs _ _ _ HM2.out HN3.out rfl rfl).mono ?_
    rintro e w4 ⟨rfl, nd, rfl⟩
    go_wp2
    go_ret
    exact ⟨rfl, below_drewN HB3.out nd⟩

set_option maxRecDepth 100000 in
theorem lifted (os : Os) (started : os.Started) (H : Type) (enc : TypeId × Value → H) :
    ReturnsInHanded {} Try.checked os 4 .any (Rows.fnExactCheckSpec.pre6 enc Try.prog Try.f4 Rows.fnExactCheckRow.domain false) (Rows.fnExactCheckSpec.post enc Try.prog Try.f4 false true false false) := by
  refine returnsInHanded_of_change (C := Try.checked) own started (by kernel_rfl) Try.func4
    (ChangeSpec.witness6 (enc := enc) (C := Try.checked) false ⟨#[], #[.slice none 0 0], []⟩ 8 (by kernel_rfl) (by kernel_rfl) (by kernel_rfl) (by kernel_rfl)) ?_
  intro W base args ds gs before hval0 hW hcnd _
  have hval : ∀ (j : Nat) t v, Try.f4.params[j]? = some t → args[j]? = some v → Value.okWide Try.prog W .any base t v := hval0
  have hW' := hW
  obtain ⟨p, q, hA0, hV, rfl, hfz, hnd⟩ := hW
  have hA : DataW.TrodAll enc Try.prog W 0 (fun _ => true) true Try.f4.params.toList args.toList ds p := hA0
  rw [Try.params4] at hA hval
  obtain ⟨v0, vs0, d0, ds0, p0, q0, hargs, rfl, rfl, h0, r0⟩ := trodAll_cons hA
  obtain ⟨rfl, rfl, rfl⟩ := trodAll_nil r0
  obtain rfl : args = #[v0] := by cases args; simp_all
  obtain ⟨rfl, rfl⟩ := trodVars_none hV
  have lt0 : ∀ x ∈ p0, x.block < W.heap.size := by obtain ⟨m, hm⟩ := h0; exact DataW.trod_lt m _ _ _ hm
  obtain ⟨a0, n0, c0, rfl, xs0, hn0, hb0, hs0⟩ := arg_bytes (hval 0 28 v0 rfl rfl) h0
  clear hA0 hval0
  refine (walk W a0 n0 c0 xs0 hn0 hb0 hs0).mono fun e W' ⟨he, bel⟩ => ?_
  subst he
  exact ⟨_, rfl, _, _, _, [], _, [], hW', trodAll_mk1 (shut_bool Try.underlying4 _), (trodAll_cons_mk (Below.trod laidOut (by kernel_rfl) (of_decide_eq_true (by kernel_rfl)) h0 bel lt0) trodAll_mk0), rfl, bel.frame _, fun h => by cases h⟩

theorem over : Rows.fnExactCheckRow.holds Try.pinned (OpenSpec.ofChange Rows.fnExactCheckSpec) :=
  OpenClaim.holds_of_wide 4 Try.f4 rfl rfl rfl rfl rfl rfl rfl ⟨rfl, rfl, rfl, rfl, rfl⟩ rfl rfl rfl rfl rfl (by kernel_rfl) Try.func4 (by kernel_rfl)
    (of_decide_eq_true (by kernel_rfl)) (by unfold Func.isWrapper; first | (rw [if_pos (by decide +kernel)]; kernel_rfl) | (rw [if_neg (by decide +kernel)]; exact ⟨rfl, rfl⟩))
    (fun os started H enc _ => lifted os started H enc)

theorem proved : Rows.FnExactCheckSaid := over
#print axioms proved
end Go.Proofs.Ytmiapmgeacleoaa.fnExactCheck
