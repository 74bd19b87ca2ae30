/- impl.SourceOk answers as spec.SourceOk at every argument: the law FnExactSourceOk returns true, and its arguments read as before. No conditions. -/
import Derived.Test.YtpigollgjpkflaaRows
import Derived.Test.YtpigollgjpkflaaOpenSrc
import Derived.Test.YtpigollgjpkflaaSrcS
import Derived.WalkSmall
import Derived.WalkKit
import Derived.ProofKit
import Derived.OpenShut
import Derived.ShutString
import Derived.ChangeOld
import Derived.Below
namespace Go.Proofs.Ytpigollgjpkflaa.fnExactSourceOk
open Go.ChangeShapes Go.WideShapes Go.ChangeAt Go.RowKit
set_option linter.unusedVariables false

theorem own : ownKnob Try.prog.godebug = none := by kernel_rfl
theorem laidOut : laidOutB Try.prog = true := by kernel_rfl


set_option maxHeartbeats 1000000 in
set_option maxRecDepth 100000 in
theorem walk (w : World) (x m s : Int) (i o : Bool) :
    Calls Try.prog 4 #[(.agg #[.int .i64 x, .int .i64 m, .int .i64 s, .bool i, .bool o])] w fun e w' => e = .returned (.bool true) ∧ Below w.heap.size w w' := by
  have BB := Lib.hid (Below.refl w.heap.size w)
  have SS : Hid (∀ W, Calls Try.prog 22 #[(.agg #[.int .i64 x, .int .i64 m, .int .i64 s, .bool i, .bool o])] W fun e w' => e = .returned (.bool (sOk ⟨x, m, s, i, o⟩)) ∧ Below W.heap.size W w') := specSrcOk_any ⟨x, m, s, i, o⟩
  have IS : Hid (∀ W, Calls Try.prog 24 #[(.agg #[.int .i64 x, .int .i64 m, .int .i64 s, .bool i, .bool o])] W fun e w' => e = .returned (.bool (sOk ⟨x, m, s, i, o⟩)) ∧ Below W.heap.size W w') := implSrcOk_any ⟨x, m, s, i, o⟩
  generalize (sOk ⟨x, m, s, i, o⟩) = K at SS IS
  have hK : (K != K) = false := by simp
  go_enter Try.func4, Try.ntmps4
  have BB_1 := Lib.hid (BB.out.alloc (by first | omega | (simp only [World.size_alloc]; omega) | (simp only [size_drew_]; omega) | (simp only [World.size_alloc, size_drew_]; omega)) (.cells #[.int .i64 x, .int .i64 m, .int .i64 s, .bool i, .bool o] 38))
  clear BB
  have C_1 := Lib.hid (Blk.new w 38 #[.int .i64 x, .int .i64 m, .int .i64 s, .bool i, .bool o])
  have qC_1 := C_1.out.cell
  go_wp2_with fail
  refine (toSource_any ⟨x, m, s, i, o⟩ _).mono ?_
  rintro e w2 ⟨rfl, hb⟩
  clear qC_1
  have C_2 := Lib.hid (C_1.out.below hb)
  clear C_1
  have BB_2 := Lib.hid (BB_1.out.trans (hb.mono (by first | omega | (simp only [World.size_alloc]; omega) | (simp only [size_drew_]; omega) | (simp only [World.size_alloc, size_drew_]; omega))))
  clear BB_1
  have s2 := hb.size
  simp only [World.size_alloc] at s2
  clear hb
  go_wp2_with fail
  refine (SS.out _).mono ?_
  rintro e w3 ⟨rfl, hb⟩
  have C_3 := Lib.hid (C_2.out.below hb)
  clear C_2
  have BB_3 := Lib.hid (BB_2.out.trans (hb.mono (by first | omega | (simp only [World.size_alloc]; omega) | (simp only [size_drew_]; omega) | (simp only [World.size_alloc, size_drew_]; omega))))
  clear BB_2
  have s3 := hb.size
  clear hb
  have qC_3 := C_3.out.cell
  go_wp2_with fail
  refine (toSource_any ⟨x, m, s, i, o⟩ _).mono ?_
  rintro e w4 ⟨rfl, hb⟩
  clear qC_3
  have C_4 := Lib.hid (C_3.out.below hb)
  clear C_3
  have BB_4 := Lib.hid (BB_3.out.trans (hb.mono (by first | omega | (simp only [World.size_alloc]; omega) | (simp only [size_drew_]; omega) | (simp only [World.size_alloc, size_drew_]; omega))))
  clear BB_3
  have s4 := hb.size
  clear hb
  go_wp2_with fail
  refine (IS.out _).mono ?_
  rintro e w5 ⟨rfl, hb⟩
  have C_5 := Lib.hid (C_4.out.below hb)
  clear C_4
  have BB_5 := Lib.hid (BB_4.out.trans (hb.mono (by first | omega | (simp only [World.size_alloc]; omega) | (simp only [size_drew_]; omega) | (simp only [World.size_alloc, size_drew_]; omega))))
  clear BB_4
  have s5 := hb.size
  clear hb
  go_wp2
  go_ret
  exact ⟨rfl, BB_5.out⟩

set_option maxRecDepth 100000 in
theorem lifted (os : Os) (started : os.Started) (H : Type) (enc : TypeId × Value → H) :
    ReturnsInHanded {} Try.checked os 4 .any (Rows.fnExactSourceOkSpec.pre6 enc Try.prog Try.f4 Rows.fnExactSourceOkRow.domain false) (Rows.fnExactSourceOkSpec.post enc Try.prog Try.f4 false true false false) := by
  refine returnsInHanded_of_change (C := Try.checked) own started (by kernel_rfl) Try.func4
    (ChangeSpec.witness6 (enc := enc) (C := Try.checked) false ⟨#[], #[(.agg #[.int .i64 0, .int .i64 0, .int .i64 0, .bool false, .bool false])], []⟩ 8 (by kernel_rfl) (by kernel_rfl) (by kernel_rfl) (by kernel_rfl)) ?_
  intro W base args ds gs before hval0 hW hcnd _
  have hval : ∀ (j : Nat) t v, Try.f4.params[j]? = some t → args[j]? = some v → Value.okWide Try.prog W .any base t v := hval0
  have hW' := hW
  obtain ⟨p, q, hA0, hV, rfl, hfz, hnd⟩ := hW
  have hA : DataW.TrodAll enc Try.prog W 0 (fun _ => true) true Try.f4.params.toList args.toList ds p := hA0
  rw [Try.params4] at hA hval
  obtain ⟨v0, vs0, d0, ds0, p0, q0, hargs, rfl, rfl, h0, r0⟩ := trodAll_cons hA
  obtain ⟨rfl, rfl, rfl⟩ := trodAll_nil r0
  obtain rfl : args = #[v0] := by cases args; simp_all
  obtain ⟨rfl, rfl⟩ := trodVars_none hV
  have lt0 : ∀ x ∈ p0, x.block < W.heap.size := by obtain ⟨m, hm⟩ := h0; exact DataW.trod_lt m _ _ _ hm
  obtain ⟨x0, m0, s0, i0, o0, rfl⟩ := arg_source (hval 0 38 v0 rfl rfl) h0
  clear hA0 hval0
  refine (walk W x0 m0 s0 i0 o0).mono fun e W' ⟨he, bel⟩ => ?_
  subst he
  exact ⟨_, rfl, _, _, _, [], _, [], hW', trodAll_mk1 (shut_bool Try.underlying4 _), (trodAll_cons_mk (Below.trod laidOut (by kernel_rfl) (of_decide_eq_true (by kernel_rfl)) h0 bel lt0) trodAll_mk0), rfl, bel.frame _, fun h => by cases h⟩

theorem over : Rows.fnExactSourceOkRow.holds Try.pinned (OpenSpec.ofChange Rows.fnExactSourceOkSpec) :=
  OpenClaim.holds_of_wide 4 Try.f4 rfl rfl rfl rfl rfl rfl rfl ⟨rfl, rfl, rfl, rfl, rfl⟩ rfl rfl rfl rfl rfl (by kernel_rfl) Try.func4 (by kernel_rfl)
    (of_decide_eq_true (by kernel_rfl)) (by unfold Func.isWrapper; first | (rw [if_pos (by decide +kernel)]; kernel_rfl) | (rw [if_neg (by decide +kernel)]; exact ⟨rfl, rfl⟩))
    (fun os started H enc _ => lifted os started H enc)

theorem proved : Rows.FnExactSourceOkSaid := over
#print axioms proved
end Go.Proofs.Ytpigollgjpkflaa.fnExactSourceOk
