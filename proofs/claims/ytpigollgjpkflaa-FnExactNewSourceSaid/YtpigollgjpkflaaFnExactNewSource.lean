/- impl.NewSource answers as spec.NewSource at every argument: the law FnExactNewSource returns true, and its arguments read as before. No conditions. -/
import Derived.Test.YtpigollgjpkflaaRows
import Derived.Test.YtpigollgjpkflaaOpenSrc
import Derived.Test.YtpigollgjpkflaaSrcS
import Derived.WalkSmall
import Derived.WalkKit
import Derived.ProofKit
import Derived.OpenShut
import Derived.ShutString
import Derived.ChangeOld
import Derived.Below
namespace Go.Proofs.Ytpigollgjpkflaa.fnExactNewSource
open Go.ChangeShapes Go.WideShapes Go.ChangeAt Go.RowKit
set_option linter.unusedVariables false

theorem own : ownKnob Try.prog.godebug = none := by kernel_rfl
theorem laidOut : laidOutB Try.prog = true := by kernel_rfl


set_option maxHeartbeats 1000000 in
set_option maxRecDepth 100000 in
theorem walk (w : World) (n : Int) (hn : Is64 n) :
    Calls Try.prog 5 #[.int .i64 n] w fun e w' => e = .returned (.bool true) ∧ Below w.heap.size w w' := by
  have BB := Lib.hid (Below.refl w.heap.size w)
  have SS : Hid (∀ W, Calls Try.prog 25 #[.int .i64 n] W (SrcRes (newT n) (tickB n) W)) := specNew_any n
  have IS : Hid (∀ W, Calls Try.prog 26 #[.int .i64 n] W (SrcRes (newT n) (tickB n) W)) := implNew_any n
  generalize (newT n) = T at SS IS
  obtain ⟨a, b, c, d, e⟩ := T
  have hd : (d != d) = false := by simp
  have he : (e != e) = false := by simp
  generalize (tickB n) = K at SS IS
  have hK : (K != K) = false := by simp
  go_enter Try.func5, Try.ntmps5
  go_wp2_with fail
  refine (SS.out _).mono ?_
  rintro e w1 ⟨rfl, hb⟩
  have BB_1 := Lib.hid (BB.out.trans (hb.mono (by first | omega | (simp only [World.size_alloc]; omega) | (simp only [size_drew_]; omega) | (simp only [World.size_alloc, size_drew_]; omega))))
  clear BB
  have s1 := hb.size
  clear hb
  have BB_2 := Lib.hid (BB_1.out.alloc (by first | omega | (simp only [World.size_alloc]; omega) | (simp only [size_drew_]; omega) | (simp only [World.size_alloc, size_drew_]; omega)) (.cells #[.int .i64 a, .int .i64 b, .int .i64 c, .bool d, .bool e] 28))
  clear BB_1
  have OW_2 := Lib.hid (Blk.new w1 28 #[.int .i64 a, .int .i64 b, .int .i64 c, .bool d, .bool e])
  go_wp2_with fail
  refine (IS.out _).mono ?_
  rintro e w3 ⟨rfl, hb⟩
  have OW_3 := Lib.hid (OW_2.out.below hb)
  clear OW_2
  have BB_3 := Lib.hid (BB_2.out.trans (hb.mono (by first | omega | (simp only [World.size_alloc]; omega) | (simp only [size_drew_]; omega) | (simp only [World.size_alloc, size_drew_]; omega))))
  clear BB_2
  have s3 := hb.size
  simp only [World.size_alloc] at s3
  clear hb
  have OW_4 := Lib.hid (OW_3.out.alloc (.cells #[.int .i64 a, .int .i64 b, .int .i64 c, .bool d, .bool e] 28))
  clear OW_3
  have BB_4 := Lib.hid (BB_3.out.alloc (by first | omega | (simp only [World.size_alloc]; omega) | (simp only [size_drew_]; omega) | (simp only [World.size_alloc, size_drew_]; omega)) (.cells #[.int .i64 a, .int .i64 b, .int .i64 c, .bool d, .bool e] 28))
  clear BB_3
  have OG_4 := Lib.hid (Blk.new w3 28 #[.int .i64 a, .int .i64 b, .int .i64 c, .bool d, .bool e])
  have qOW_4 := OW_4.out.cell
  have qOG_4 := OG_4.out.cell
  go_wp2_with fail
  refine (eqSource_any ⟨a, b, c, d, e⟩ _).mono ?_
  rintro e w5 ⟨rfl, hb⟩
  clear qOW_4 qOG_4
  have OW_5 := Lib.hid (OW_4.out.below hb)
  clear OW_4
  have OG_5 := Lib.hid (OG_4.out.below hb)
  clear OG_4
  have BB_5 := Lib.hid (BB_4.out.trans (hb.mono (by first | omega | (simp only [World.size_alloc]; omega) | (simp only [size_drew_]; omega) | (simp only [World.size_alloc, size_drew_]; omega))))
  clear BB_4
  have s5 := hb.size
  simp only [World.size_alloc] at s5
  clear hb
  go_wp2
  go_ret
  exact ⟨rfl, BB_5.out⟩

set_option maxRecDepth 100000 in
theorem lifted (os : Os) (started : os.Started) (H : Type) (enc : TypeId × Value → H) :
    ReturnsInHanded {} Try.checked os 5 .any (Rows.fnExactNewSourceSpec.pre6 enc Try.prog Try.f5 Rows.fnExactNewSourceRow.domain false) (Rows.fnExactNewSourceSpec.post enc Try.prog Try.f5 false true false false) := by
  refine returnsInHanded_of_change (C := Try.checked) own started (by kernel_rfl) Try.func5
    (ChangeSpec.witness6 (enc := enc) (C := Try.checked) false ⟨#[], #[.int .i64 0], []⟩ 8 (by kernel_rfl) (by kernel_rfl) (by kernel_rfl) (by kernel_rfl)) ?_
  intro W base args ds gs before hval0 hW hcnd _
  have hval : ∀ (j : Nat) t v, Try.f5.params[j]? = some t → args[j]? = some v → Value.okWide Try.prog W .any base t v := hval0
  have hW' := hW
  obtain ⟨p, q, hA0, hV, rfl, hfz, hnd⟩ := hW
  have hA : DataW.TrodAll enc Try.prog W 0 (fun _ => true) true Try.f5.params.toList args.toList ds p := hA0
  rw [Try.params5] at hA hval
  obtain ⟨v0, vs0, d0, ds0, p0, q0, hargs, rfl, rfl, h0, r0⟩ := trodAll_cons hA
  obtain ⟨rfl, rfl, rfl⟩ := trodAll_nil r0
  obtain rfl : args = #[v0] := by cases args; simp_all
  obtain ⟨rfl, rfl⟩ := trodVars_none hV
  have lt0 : ∀ x ∈ p0, x.block < W.heap.size := by obtain ⟨m, hm⟩ := h0; exact DataW.trod_lt m _ _ _ hm
  obtain ⟨x0, rfl, hx0⟩ := arg_int (hval 0 3 v0 rfl rfl) h0
  clear hA0 hval0
  refine (walk W x0 hx0).mono fun e W' ⟨he, bel⟩ => ?_
  subst he
  exact ⟨_, rfl, _, _, _, [], _, [], hW', trodAll_mk1 (shut_bool Try.underlying4 _), (trodAll_cons_mk (Below.trod laidOut (by kernel_rfl) (of_decide_eq_true (by kernel_rfl)) h0 bel lt0) trodAll_mk0), rfl, bel.frame _, fun h => by cases h⟩

theorem over : Rows.fnExactNewSourceRow.holds Try.pinned (OpenSpec.ofChange Rows.fnExactNewSourceSpec) :=
  OpenClaim.holds_of_wide 5 Try.f5 rfl rfl rfl rfl rfl rfl rfl ⟨rfl, rfl, rfl, rfl, rfl⟩ rfl rfl rfl rfl rfl (by kernel_rfl) Try.func5 (by kernel_rfl)
    (of_decide_eq_true (by kernel_rfl)) (by unfold Func.isWrapper; first | (rw [if_pos (by decide +kernel)]; kernel_rfl) | (rw [if_neg (by decide +kernel)]; exact ⟨rfl, rfl⟩))
    (fun os started H enc _ => lifted os started H enc)

theorem proved : Rows.FnExactNewSourceSaid := over
#print axioms proved
end Go.Proofs.Ytpigollgjpkflaa.fnExactNewSource
