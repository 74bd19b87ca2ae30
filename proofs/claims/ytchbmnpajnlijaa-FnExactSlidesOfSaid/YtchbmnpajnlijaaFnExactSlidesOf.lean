/- impl.SlidesOf answers as spec.SlidesOf at every three ints, in memory of its own. No conditions. -/
import Derived.Test.YtchbmnpajnlijaaRows
import Derived.Test.YtchbmnpajnlijaaOpenBase
import Derived.Test.YtchbmnpajnlijaaSl1
import Derived.Test.YtchbmnpajnlijaaSl2
import Derived.Test.YtchbmnpajnlijaaRingS
import Derived.Test.YtchbmnpajnlijaaPlainFs
import Derived.WalkSmall
import Derived.WalkKit
import Derived.ProofKit
import Derived.OpenShut
import Derived.ShutString
import Derived.ChangeOld
import Derived.Below
namespace Go.Proofs.Ytchbmnpajnlijaa.fnExactSlidesOf
open Go.ChangeShapes Go.WideShapes Go.ChangeAt Go.RowKit
set_option linter.unusedVariables false

theorem own : ownKnob Try.prog.godebug = none := by kernel_rfl
theorem laidOut : laidOutB Try.prog = true := by kernel_rfl


set_option maxHeartbeats 4000000 in
set_option maxRecDepth 100000 in
theorem walk (w : World) (x : Int) (hx : Is64 x) (y : Int) (hy : Is64 y) (z : Int) (hz : Is64 z) : Calls Try.prog 3 #[.int .i64 x, .int .i64 y, .int .i64 z] w fun e w' => e = .returned (.bool true) ∧ Below w.heap.size w w' := by
  have BB := Lib.hid (Below.refl w.heap.size w)
  have SP := Lib.hid (fun W => specSlides_any x y z W)
  have IP := Lib.hid (fun W => implSlides_any x y z W)
  have hL := slides_le x y z
  generalize slidesL x y z = L at SP IP hL
  clear hx hy hz
  go_enter Try.func3, Try.ntmps3
  go_wp2_with fail
  refine (SP.out _).mono ?_
  rintro e w1 ⟨a1, c1, rfl, ho, hb⟩
  have BB_1 := Lib.hid (BB.out.trans (hb.mono (by first | omega | (simp only [World.size_alloc]; omega) | (simp only [size_drew_]; omega) | (simp only [World.size_alloc, size_drew_]; omega))))
  clear BB
  have R__1 := Lib.hid (Rw.new ho)
  clear ho
  have s1 := hb.size
  clear hb
  go_wp2_with fail
  refine (IP.out _).mono ?_
  rintro e w2 ⟨a2, c2, rfl, ho, hb⟩
  have R__2 := Lib.hid (R__1.out.below hb (by first | omega | (simp only [World.size_alloc]; omega) | (simp only [size_drew_]; omega) | (simp only [World.size_alloc, size_drew_]; omega)))
  clear R__1
  have BB_2 := Lib.hid (BB_1.out.trans (hb.mono (by first | omega | (simp only [World.size_alloc]; omega) | (simp only [size_drew_]; omega) | (simp only [World.size_alloc, size_drew_]; omega))))
  clear BB_1
  have G_2 := Lib.hid (Rw.new ho)
  clear ho
  have s2 := hb.size
  clear hb
  go_wp2_with fail
  refine (eqInts_b _ _ _ _ _ _ L _ _ _ G_2.out.nums R__2.out.nums rfl rfl).mono ?_
  rintro e w3 ⟨rfl, hb⟩
  have R__3 := Lib.hid (R__2.out.below hb (by first | omega | (simp only [World.size_alloc]; omega) | (simp only [size_drew_]; omega) | (simp only [World.size_alloc, size_drew_]; omega)))
  clear R__2
  have G_3 := Lib.hid (G_2.out.below hb (by first | omega | (simp only [World.size_alloc]; omega) | (simp only [size_drew_]; omega) | (simp only [World.size_alloc, size_drew_]; omega)))
  clear G_2
  have BB_3 := Lib.hid (BB_2.out.trans (hb.mono (by first | omega | (simp only [World.size_alloc]; omega) | (simp only [size_drew_]; omega) | (simp only [World.size_alloc, size_drew_]; omega))))
  clear BB_2
  have s3 := hb.size
  clear hb
  go_wp2_with fail
  refine (markInts_m _ _ _ 1 _ L _ _ G_3.out.own rfl rfl (by first | omega | (simp only [World.size_alloc]; omega) | (simp only [size_drew_]; omega) | (simp only [World.size_alloc, size_drew_]; omega)) (by omega) (by omega)).mono ?_
  rintro e w4 ⟨rfl, hm⟩
  have hb := hm.below
  have G_4 := Lib.hid (Rw.mk hm.own G_3.out.up)
  have R__4 := Lib.hid (R__3.out.other G_3.out hm.grown (by first | omega | (simp only [World.size_alloc]; omega) | (simp only [size_drew_]; omega) | (simp only [World.size_alloc, size_drew_]; omega)))
  clear R__3
  have BB_4 := Lib.hid (BB_3.out.trans (hb.mono (by first | omega | (simp only [World.size_alloc]; omega) | (simp only [size_drew_]; omega) | (simp only [World.size_alloc, size_drew_]; omega))))
  clear BB_3
  clear G_3
  have s4 := hb.size
  clear hb hm
  go_wp2_with fail
  refine (heldInts_m _ _ _ 1 _ _ _ G_4.out.nums rfl (by omega) (by omega)).mono ?_
  rintro e w5 ⟨rfl, hb⟩
  have R__5 := Lib.hid (R__4.out.below hb (by first | omega | (simp only [World.size_alloc]; omega) | (simp only [size_drew_]; omega) | (simp only [World.size_alloc, size_drew_]; omega)))
  clear R__4
  have G_5 := Lib.hid (G_4.out.below hb (by first | omega | (simp only [World.size_alloc]; omega) | (simp only [size_drew_]; omega) | (simp only [World.size_alloc, size_drew_]; omega)))
  clear G_4
  have BB_5 := Lib.hid (BB_4.out.trans (hb.mono (by first | omega | (simp only [World.size_alloc]; omega) | (simp only [size_drew_]; omega) | (simp only [World.size_alloc, size_drew_]; omega))))
  clear BB_4
  have s5 := hb.size
  clear hb
  go_wp2_with fail
  refine (IP.out _).mono ?_
  rintro e w6 ⟨a6, c6, rfl, ho, hb⟩
  have R__6 := Lib.hid (R__5.out.below hb (by first | omega | (simp only [World.size_alloc]; omega) | (simp only [size_drew_]; omega) | (simp only [World.size_alloc, size_drew_]; omega)))
  clear R__5
  have G_6 := Lib.hid (G_5.out.below hb (by first | omega | (simp only [World.size_alloc]; omega) | (simp only [size_drew_]; omega) | (simp only [World.size_alloc, size_drew_]; omega)))
  clear G_5
  have BB_6 := Lib.hid (BB_5.out.trans (hb.mono (by first | omega | (simp only [World.size_alloc]; omega) | (simp only [size_drew_]; omega) | (simp only [World.size_alloc, size_drew_]; omega))))
  clear BB_5
  have H__6 := Lib.hid (Rw.new ho)
  clear ho
  have s6 := hb.size
  clear hb
  go_wp2_with fail
  refine (eqInts_b _ _ _ _ _ _ L _ _ _ H__6.out.nums R__6.out.nums rfl rfl).mono ?_
  rintro e w7 ⟨rfl, hb⟩
  have R__7 := Lib.hid (R__6.out.below hb (by first | omega | (simp only [World.size_alloc]; omega) | (simp only [size_drew_]; omega) | (simp only [World.size_alloc, size_drew_]; omega)))
  clear R__6
  have G_7 := Lib.hid (G_6.out.below hb (by first | omega | (simp only [World.size_alloc]; omega) | (simp only [size_drew_]; omega) | (simp only [World.size_alloc, size_drew_]; omega)))
  clear G_6
  have H__7 := Lib.hid (H__6.out.below hb (by first | omega | (simp only [World.size_alloc]; omega) | (simp only [size_drew_]; omega) | (simp only [World.size_alloc, size_drew_]; omega)))
  clear H__6
  have BB_7 := Lib.hid (BB_6.out.trans (hb.mono (by first | omega | (simp only [World.size_alloc]; omega) | (simp only [size_drew_]; omega) | (simp only [World.size_alloc, size_drew_]; omega))))
  clear BB_6
  have s7 := hb.size
  clear hb
  go_wp2_with fail
  refine (heldInts_m _ _ _ 1 _ _ _ G_7.out.nums rfl (by omega) (by omega)).mono ?_
  rintro e w8 ⟨rfl, hb⟩
  have R__8 := Lib.hid (R__7.out.below hb (by first | omega | (simp only [World.size_alloc]; omega) | (simp only [size_drew_]; omega) | (simp only [World.size_alloc, size_drew_]; omega)))
  clear R__7
  have G_8 := Lib.hid (G_7.out.below hb (by first | omega | (simp only [World.size_alloc]; omega) | (simp only [size_drew_]; omega) | (simp only [World.size_alloc, size_drew_]; omega)))
  clear G_7
  have H__8 := Lib.hid (H__7.out.below hb (by first | omega | (simp only [World.size_alloc]; omega) | (simp only [size_drew_]; omega) | (simp only [World.size_alloc, size_drew_]; omega)))
  clear H__7
  have BB_8 := Lib.hid (BB_7.out.trans (hb.mono (by first | omega | (simp only [World.size_alloc]; omega) | (simp only [size_drew_]; omega) | (simp only [World.size_alloc, size_drew_]; omega))))
  clear BB_7
  have s8 := hb.size
  clear hb
  go_wp2
  go_ret
  exact ⟨rfl, BB_8.out⟩

set_option maxRecDepth 100000 in
theorem lifted (os : Os) (started : os.Started) (H : Type) (enc : TypeId × Value → H) :
    ReturnsInHanded {} Try.checked os 3 .any (Rows.fnExactSlidesOfSpec.pre6 enc Try.prog Try.f3 Rows.fnExactSlidesOfRow.domain false) (Rows.fnExactSlidesOfSpec.post enc Try.prog Try.f3 false true false false) := by
  refine returnsInHanded_of_change (C := Try.checked) own started (by kernel_rfl) Try.func3
    (ChangeSpec.witness6 (enc := enc) (C := Try.checked) false ⟨#[], #[.int .i64 0, .int .i64 0, .int .i64 0], []⟩ 8 (by kernel_rfl) (by kernel_rfl) (by kernel_rfl) (by kernel_rfl)) ?_
  intro W base args ds gs before hval0 hW hcnd _
  have hval : ∀ (j : Nat) t v, Try.f3.params[j]? = some t → args[j]? = some v → Value.okWide Try.prog W .any base t v := hval0
  have hW' := hW
  obtain ⟨p, q, hA0, hV, rfl, hfz, hnd⟩ := hW
  have hA : DataW.TrodAll enc Try.prog W 0 (fun _ => true) true Try.f3.params.toList args.toList ds p := hA0
  rw [Try.params3] at hA hval
  obtain ⟨v0, vs0, d0, ds0, p0, q0, hargs, rfl, rfl, h0, r0⟩ := trodAll_cons hA
  obtain ⟨v1, vs1, d1, ds1, p1, q1, rfl, rfl, rfl, h1, r1⟩ := trodAll_cons r0
  obtain ⟨v2, vs2, d2, ds2, p2, q2, rfl, rfl, rfl, h2, r2⟩ := trodAll_cons r1
  obtain ⟨rfl, rfl, rfl⟩ := trodAll_nil r2
  obtain rfl : args = #[v0, v1, v2] := by cases args; simp_all
  obtain ⟨rfl, rfl⟩ := trodVars_none hV
  have lt0 : ∀ x ∈ p0, x.block < W.heap.size := by obtain ⟨m, hm⟩ := h0; exact DataW.trod_lt m _ _ _ hm
  obtain ⟨x0, rfl, hx0⟩ := arg_int (hval 0 3 v0 rfl rfl) h0
  have lt1 : ∀ x ∈ p1, x.block < W.heap.size := by obtain ⟨m, hm⟩ := h1; exact DataW.trod_lt m _ _ _ hm
  obtain ⟨x1, rfl, hx1⟩ := arg_int (hval 1 3 v1 rfl rfl) h1
  have lt2 : ∀ x ∈ p2, x.block < W.heap.size := by obtain ⟨m, hm⟩ := h2; exact DataW.trod_lt m _ _ _ hm
  obtain ⟨x2, rfl, hx2⟩ := arg_int (hval 2 3 v2 rfl rfl) h2
  clear hA0 hval0
  refine (walk W x0 hx0 x1 hx1 x2 hx2).mono fun e W' ⟨he, bel⟩ => ?_
  subst he
  exact ⟨_, rfl, _, _, _, [], _, [], hW', trodAll_mk1 (shut_bool Try.underlying4 _), (trodAll_cons_mk (Below.trod laidOut (by kernel_rfl) (of_decide_eq_true (by kernel_rfl)) h0 bel lt0) (trodAll_cons_mk (Below.trod laidOut (by kernel_rfl) (of_decide_eq_true (by kernel_rfl)) h1 bel lt1) (trodAll_cons_mk (Below.trod laidOut (by kernel_rfl) (of_decide_eq_true (by kernel_rfl)) h2 bel lt2) trodAll_mk0))), rfl, bel.frame _, fun h => by cases h⟩

theorem over : Rows.fnExactSlidesOfRow.holds Try.pinned (OpenSpec.ofChange Rows.fnExactSlidesOfSpec) :=
  OpenClaim.holds_of_wide 3 Try.f3 rfl rfl rfl rfl rfl rfl rfl ⟨rfl, rfl, rfl, rfl, rfl⟩ rfl rfl rfl rfl rfl (by kernel_rfl) Try.func3 (by kernel_rfl)
    (of_decide_eq_true (by kernel_rfl)) (by unfold Func.isWrapper; first | (rw [if_pos (by decide +kernel)]; kernel_rfl) | (rw [if_neg (by decide +kernel)]; exact ⟨rfl, rfl⟩))
    (fun os started H enc _ => lifted os started H enc)

theorem proved : Rows.FnExactSlidesOfSaid := over
#print axioms proved
end Go.Proofs.Ytchbmnpajnlijaa.fnExactSlidesOf
