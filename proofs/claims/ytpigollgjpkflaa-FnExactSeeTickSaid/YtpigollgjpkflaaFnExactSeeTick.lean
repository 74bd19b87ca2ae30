/- impl.SeeTick answers as spec.SeeTick at every argument: the law FnExactSeeTick returns true, and its arguments read as before. No conditions. -/
import Derived.Test.YtpigollgjpkflaaRows
import Derived.Test.YtpigollgjpkflaaOpenSrc
import Derived.Test.YtpigollgjpkflaaSrcS
import Derived.WalkSmall
import Derived.WalkKit
import Derived.ProofKit
import Derived.OpenShut
import Derived.ShutString
import Derived.ChangeOld
import Derived.Below
namespace Go.Proofs.Ytpigollgjpkflaa.fnExactSeeTick
open Go.ChangeShapes Go.WideShapes Go.ChangeAt Go.RowKit
set_option linter.unusedVariables false

theorem own : ownKnob Try.prog.godebug = none := by kernel_rfl
theorem laidOut : laidOutB Try.prog = true := by kernel_rfl


set_option maxHeartbeats 1000000 in
set_option maxRecDepth 100000 in
theorem walk (w : World) (x m s : Int) (i o : Bool) (l : Int) (hl : Is64 l) (n : Int) (hn : Is64 n) :
    Calls Try.prog 8 #[(.agg #[.int .i64 x, .int .i64 m, .int .i64 s, .bool i, .bool o]), .int .i64 l, .int .i64 n] w fun e w' => e = .returned (.bool true) ∧ Below w.heap.size w w' := by
  have BB := Lib.hid (Below.refl w.heap.size w)
  have SS : Hid (∀ W, Calls Try.prog 32 #[(.agg #[.int .i64 x, .int .i64 m, .int .i64 s, .bool i, .bool o]), .int .i64 l, .int .i64 n] W (SrcRes (ttT ⟨x, m, s, i, o⟩ l n) (ttOk ⟨x, m, s, i, o⟩ l n) W)) := specTickS_any ⟨x, m, s, i, o⟩ l n
  have IS : Hid (∀ W, Calls Try.prog 33 #[(.agg #[.int .i64 x, .int .i64 m, .int .i64 s, .bool i, .bool o]), .int .i64 l, .int .i64 n] W (SrcRes (ttT ⟨x, m, s, i, o⟩ l n) (ttOk ⟨x, m, s, i, o⟩ l n) W)) := implTickS_any ⟨x, m, s, i, o⟩ l n
  generalize (ttT ⟨x, m, s, i, o⟩ l n) = T at SS IS
  obtain ⟨a, b, c, d, e⟩ := T
  have hd : (d != d) = false := by simp
  have he : (e != e) = false := by simp
  generalize (ttOk ⟨x, m, s, i, o⟩ l n) = K at SS IS
  have hK : (K != K) = false := by simp
  go_enter Try.func8, Try.ntmps8
  have BB_1 := Lib.hid (BB.out.alloc (by first | omega | (simp only [World.size_alloc]; omega) | (simp only [size_drew_]; omega) | (simp only [World.size_alloc, size_drew_]; omega)) (.cells #[.int .i64 x, .int .i64 m, .int .i64 s, .bool i, .bool o] 38))
  clear BB
  have C_1 := Lib.hid (Blk.new w 38 #[.int .i64 x, .int .i64 m, .int .i64 s, .bool i, .bool o])
  have qC_1 := C_1.out.cell
  go_wp2_with fail
  refine (toSource_any ⟨x, m, s, i, o⟩ _).mono ?_
  rintro e w2 ⟨rfl, hb⟩
  clear qC_1
  have C_2 := Lib.hid (C_1.out.below hb)
  clear C_1
  have BB_2 := Lib.hid (BB_1.out.trans (hb.mono (by first | omega | (simp only [World.size_alloc]; omega) | (simp only [size_drew_]; omega) | (simp only [World.size_alloc, size_drew_]; omega))))
  clear BB_1
  have s2 := hb.size
  simp only [World.size_alloc] at s2
  clear hb
  go_wp2_with fail
  refine (SS.out _).mono ?_
  rintro e w3 ⟨rfl, hb⟩
  have C_3 := Lib.hid (C_2.out.below hb)
  clear C_2
  have BB_3 := Lib.hid (BB_2.out.trans (hb.mono (by first | omega | (simp only [World.size_alloc]; omega) | (simp only [size_drew_]; omega) | (simp only [World.size_alloc, size_drew_]; omega))))
  clear BB_2
  have s3 := hb.size
  clear hb
  have C_4 := Lib.hid (C_3.out.alloc (.cells #[.int .i64 a, .int .i64 b, .int .i64 c, .bool d, .bool e] 28))
  clear C_3
  have BB_4 := Lib.hid (BB_3.out.alloc (by first | omega | (simp only [World.size_alloc]; omega) | (simp only [size_drew_]; omega) | (simp only [World.size_alloc, size_drew_]; omega)) (.cells #[.int .i64 a, .int .i64 b, .int .i64 c, .bool d, .bool e] 28))
  clear BB_3
  have OW_4 := Lib.hid (Blk.new w3 28 #[.int .i64 a, .int .i64 b, .int .i64 c, .bool d, .bool e])
  have qC_4 := C_4.out.cell
  go_wp2_with fail
  refine (toSource_any ⟨x, m, s, i, o⟩ _).mono ?_
  rintro e w5 ⟨rfl, hb⟩
  clear qC_4
  have C_5 := Lib.hid (C_4.out.below hb)
  clear C_4
  have OW_5 := Lib.hid (OW_4.out.below hb)
  clear OW_4
  have BB_5 := Lib.hid (BB_4.out.trans (hb.mono (by first | omega | (simp only [World.size_alloc]; omega) | (simp only [size_drew_]; omega) | (simp only [World.size_alloc, size_drew_]; omega))))
  clear BB_4
  have s5 := hb.size
  simp only [World.size_alloc] at s5
  clear hb
  go_wp2_with fail
  refine (IS.out _).mono ?_
  rintro e w6 ⟨rfl, hb⟩
  have C_6 := Lib.hid (C_5.out.below hb)
  clear C_5
  have OW_6 := Lib.hid (OW_5.out.below hb)
  clear OW_5
  have BB_6 := Lib.hid (BB_5.out.trans (hb.mono (by first | omega | (simp only [World.size_alloc]; omega) | (simp only [size_drew_]; omega) | (simp only [World.size_alloc, size_drew_]; omega))))
  clear BB_5
  have s6 := hb.size
  clear hb
  have C_7 := Lib.hid (C_6.out.alloc (.cells #[.int .i64 a, .int .i64 b, .int .i64 c, .bool d, .bool e] 28))
  clear C_6
  have OW_7 := Lib.hid (OW_6.out.alloc (.cells #[.int .i64 a, .int .i64 b, .int .i64 c, .bool d, .bool e] 28))
  clear OW_6
  have BB_7 := Lib.hid (BB_6.out.alloc (by first | omega | (simp only [World.size_alloc]; omega) | (simp only [size_drew_]; omega) | (simp only [World.size_alloc, size_drew_]; omega)) (.cells #[.int .i64 a, .int .i64 b, .int .i64 c, .bool d, .bool e] 28))
  clear BB_6
  have OG_7 := Lib.hid (Blk.new w6 28 #[.int .i64 a, .int .i64 b, .int .i64 c, .bool d, .bool e])
  have qOW_7 := OW_7.out.cell
  have qOG_7 := OG_7.out.cell
  go_wp2_with fail
  refine (eqSource_any ⟨a, b, c, d, e⟩ _).mono ?_
  rintro e w8 ⟨rfl, hb⟩
  clear qOW_7 qOG_7
  have C_8 := Lib.hid (C_7.out.below hb)
  clear C_7
  have OW_8 := Lib.hid (OW_7.out.below hb)
  clear OW_7
  have OG_8 := Lib.hid (OG_7.out.below hb)
  clear OG_7
  have BB_8 := Lib.hid (BB_7.out.trans (hb.mono (by first | omega | (simp only [World.size_alloc]; omega) | (simp only [size_drew_]; omega) | (simp only [World.size_alloc, size_drew_]; omega))))
  clear BB_7
  have s8 := hb.size
  simp only [World.size_alloc] at s8
  clear hb
  go_wp2
  go_ret
  exact ⟨rfl, BB_8.out⟩

set_option maxRecDepth 100000 in
theorem lifted (os : Os) (started : os.Started) (H : Type) (enc : TypeId × Value → H) :
    ReturnsInHanded {} Try.checked os 8 .any (Rows.fnExactSeeTickSpec.pre6 enc Try.prog Try.f8 Rows.fnExactSeeTickRow.domain false) (Rows.fnExactSeeTickSpec.post enc Try.prog Try.f8 false true false false) := by
  refine returnsInHanded_of_change (C := Try.checked) own started (by kernel_rfl) Try.func8
    (ChangeSpec.witness6 (enc := enc) (C := Try.checked) false ⟨#[], #[(.agg #[.int .i64 0, .int .i64 0, .int .i64 0, .bool false, .bool false]), .int .i64 0, .int .i64 0], []⟩ 8 (by kernel_rfl) (by kernel_rfl) (by kernel_rfl) (by kernel_rfl)) ?_
  intro W base args ds gs before hval0 hW hcnd _
  have hval : ∀ (j : Nat) t v, Try.f8.params[j]? = some t → args[j]? = some v → Value.okWide Try.prog W .any base t v := hval0
  have hW' := hW
  obtain ⟨p, q, hA0, hV, rfl, hfz, hnd⟩ := hW
  have hA : DataW.TrodAll enc Try.prog W 0 (fun _ => true) true Try.f8.params.toList args.toList ds p := hA0
  rw [Try.params8] at hA hval
  obtain ⟨v0, vs0, d0, ds0, p0, q0, hargs, rfl, rfl, h0, r0⟩ := trodAll_cons hA
  obtain ⟨v1, vs1, d1, ds1, p1, q1, rfl, rfl, rfl, h1, r1⟩ := trodAll_cons r0
  obtain ⟨v2, vs2, d2, ds2, p2, q2, rfl, rfl, rfl, h2, r2⟩ := trodAll_cons r1
  obtain ⟨rfl, rfl, rfl⟩ := trodAll_nil r2
  obtain rfl : args = #[v0, v1, v2] := by cases args; simp_all
  obtain ⟨rfl, rfl⟩ := trodVars_none hV
  have lt0 : ∀ x ∈ p0, x.block < W.heap.size := by obtain ⟨m, hm⟩ := h0; exact DataW.trod_lt m _ _ _ hm
  obtain ⟨x0, m0, s0, i0, o0, rfl⟩ := arg_source (hval 0 38 v0 rfl rfl) h0
  have lt1 : ∀ x ∈ p1, x.block < W.heap.size := by obtain ⟨m, hm⟩ := h1; exact DataW.trod_lt m _ _ _ hm
  obtain ⟨x1, rfl, hx1⟩ := arg_int (hval 1 3 v1 rfl rfl) h1
  have lt2 : ∀ x ∈ p2, x.block < W.heap.size := by obtain ⟨m, hm⟩ := h2; exact DataW.trod_lt m _ _ _ hm
  obtain ⟨x2, rfl, hx2⟩ := arg_int (hval 2 3 v2 rfl rfl) h2
  clear hA0 hval0
  refine (walk W x0 m0 s0 i0 o0 x1 hx1 x2 hx2).mono fun e W' ⟨he, bel⟩ => ?_
  subst he
  exact ⟨_, rfl, _, _, _, [], _, [], hW', trodAll_mk1 (shut_bool Try.underlying4 _), (trodAll_cons_mk (Below.trod laidOut (by kernel_rfl) (of_decide_eq_true (by kernel_rfl)) h0 bel lt0) (trodAll_cons_mk (Below.trod laidOut (by kernel_rfl) (of_decide_eq_true (by kernel_rfl)) h1 bel lt1) (trodAll_cons_mk (Below.trod laidOut (by kernel_rfl) (of_decide_eq_true (by kernel_rfl)) h2 bel lt2) trodAll_mk0))), rfl, bel.frame _, fun h => by cases h⟩

theorem over : Rows.fnExactSeeTickRow.holds Try.pinned (OpenSpec.ofChange Rows.fnExactSeeTickSpec) :=
  OpenClaim.holds_of_wide 8 Try.f8 rfl rfl rfl rfl rfl rfl rfl ⟨rfl, rfl, rfl, rfl, rfl⟩ rfl rfl rfl rfl rfl (by kernel_rfl) Try.func8 (by kernel_rfl)
    (of_decide_eq_true (by kernel_rfl)) (by unfold Func.isWrapper; first | (rw [if_pos (by decide +kernel)]; kernel_rfl) | (rw [if_neg (by decide +kernel)]; exact ⟨rfl, rfl⟩))
    (fun os started H enc _ => lifted os started H enc)

theorem proved : Rows.FnExactSeeTickSaid := over
#print axioms proved
end Go.Proofs.Ytpigollgjpkflaa.fnExactSeeTick
