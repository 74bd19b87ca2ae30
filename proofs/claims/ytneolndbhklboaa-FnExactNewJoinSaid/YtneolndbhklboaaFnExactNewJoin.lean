/- impl.NewJoin answers as spec.NewJoin, in memory of its own. No conditions. -/
import Derived.Test.YtneolndbhklboaaRows
import Derived.Test.YtneolndbhklboaaOpenJoin
import Derived.Test.YtneolndbhklboaaJnI1
import Derived.Test.YtneolndbhklboaaHeld
import Derived.WalkSmall
import Derived.WalkKit
import Derived.ProofKit
import Derived.OpenShut
import Derived.ShutString
import Derived.ChangeOld
import Derived.Below
namespace Go.Proofs.Ytneolndbhklboaa.fnExactNewJoin
open Go.ChangeShapes Go.WideShapes Go.ChangeAt Go.RowKit
set_option linter.unusedVariables false

theorem own : ownKnob Try.prog.godebug = none := by kernel_rfl
theorem laidOut : laidOutB Try.prog = true := by kernel_rfl


set_option maxHeartbeats 4000000 in
set_option maxRecDepth 100000 in
theorem walk (w : World) :
    Calls Try.prog 10 #[] w fun e w' => e = .returned (.bool true) ∧ Below w.heap.size w w' := by
  have BB := Lib.hid (Below.refl w.heap.size w)
  have SP : Hid (∀ W, Calls Try.prog 48 #[] W (FreshJn [] [] (-1) W)) := Lib.hid sNewJoin_any
  have IP : Hid (∀ W, Calls Try.prog 49 #[] W (FreshJn [] [] (-1) W)) := Lib.hid iNewJoin_any
  have hL : ([] : List Fm).length ≤ 1048576 := by simp
  obtain ⟨L, hLe⟩ : ∃ L : List Fm, L = [] := ⟨_, rfl⟩
  obtain ⟨R, hRe⟩ : ∃ R : List Fm, R = [] := ⟨_, rfl⟩
  have hl2 : L.length ≤ 1048576 := by rw [hLe]; simp
  have hl3 : R.length ≤ 1048576 := by rw [hRe]; simp
  have SP : Hid (∀ W, Calls Try.prog 48 #[] W (FreshJn L R (-1) W)) := Lib.hid (by rw [hLe, hRe]; exact SP.out)
  have IP : Hid (∀ W, Calls Try.prog 49 #[] W (FreshJn L R (-1) W)) := Lib.hid (by rw [hLe, hRe]; exact IP.out)
  clear hLe hRe hL
  generalize (-1 : Int) = M at SP IP
  go_enter Try.func10, Try.ntmps10
  go_wp2_with fail
  refine (SP.out _).mono ?_
  rintro e w1 ⟨a1, c1, a1b, c1b, rfl, ho, hb⟩
  have BB_1 := Lib.hid (BB.out.trans (hb.mono (by first | omega | (simp only [World.size_alloc]; omega) | (simp only [size_drew_]; omega) | (simp only [World.size_alloc, size_drew_]; omega))))
  clear BB
  have R__1 := Lib.hid ho
  clear ho
  have s1 := hb.size
  clear hb
  have R__2 := Lib.hid (R__1.out.below ((Below.refl w1.heap.size w1).alloc (Nat.le_refl _) (.cells #[.slice a1 (L).length c1, .slice a1b (R).length c1b, .int .i64 M] 29)) (by first | omega | (simp only [World.size_alloc]; omega) | (simp only [size_drew_]; omega) | (simp only [World.size_alloc, size_drew_]; omega)))
  clear R__1
  have BB_2 := Lib.hid (BB_1.out.alloc (by first | omega | (simp only [World.size_alloc]; omega) | (simp only [size_drew_]; omega) | (simp only [World.size_alloc, size_drew_]; omega)) (.cells #[.slice a1 (L).length c1, .slice a1b (R).length c1b, .int .i64 M] 29))
  clear BB_1
  have OR_2 := Lib.hid (Blk.new w1 29 #[.slice a1 (L).length c1, .slice a1b (R).length c1b, .int .i64 M])
  go_wp2_with fail
  refine (IP.out _).mono ?_
  rintro e w3 ⟨a3, c3, a3b, c3b, rfl, ho, hb⟩
  have R__3 := Lib.hid (R__2.out.below hb (by first | omega | (simp only [World.size_alloc]; omega) | (simp only [size_drew_]; omega) | (simp only [World.size_alloc, size_drew_]; omega)))
  clear R__2
  have OR_3 := Lib.hid (OR_2.out.below hb)
  clear OR_2
  have BB_3 := Lib.hid (BB_2.out.trans (hb.mono (by first | omega | (simp only [World.size_alloc]; omega) | (simp only [size_drew_]; omega) | (simp only [World.size_alloc, size_drew_]; omega))))
  clear BB_2
  have G_3 := Lib.hid ho
  clear ho
  have s3 := hb.size
  simp only [World.size_alloc] at s3
  clear hb
  have R__4 := Lib.hid (R__3.out.below ((Below.refl w3.heap.size w3).alloc (Nat.le_refl _) (.cells #[.slice a3 (L).length c3, .slice a3b (R).length c3b, .int .i64 M] 29)) (by first | omega | (simp only [World.size_alloc]; omega) | (simp only [size_drew_]; omega) | (simp only [World.size_alloc, size_drew_]; omega)))
  clear R__3
  have OR_4 := Lib.hid (OR_3.out.alloc (.cells #[.slice a3 (L).length c3, .slice a3b (R).length c3b, .int .i64 M] 29))
  clear OR_3
  have G_4 := Lib.hid (G_3.out.below ((Below.refl w3.heap.size w3).alloc (Nat.le_refl _) (.cells #[.slice a3 (L).length c3, .slice a3b (R).length c3b, .int .i64 M] 29)) (by first | omega | (simp only [World.size_alloc]; omega) | (simp only [size_drew_]; omega) | (simp only [World.size_alloc, size_drew_]; omega)))
  clear G_3
  have BB_4 := Lib.hid (BB_3.out.alloc (by first | omega | (simp only [World.size_alloc]; omega) | (simp only [size_drew_]; omega) | (simp only [World.size_alloc, size_drew_]; omega)) (.cells #[.slice a3 (L).length c3, .slice a3b (R).length c3b, .int .i64 M] 29))
  clear BB_3
  have OG_4 := Lib.hid (Blk.new w3 29 #[.slice a3 (L).length c3, .slice a3b (R).length c3b, .int .i64 M])
  have qOR_4 := OR_4.out.cell
  go_wp2_with fail
  refine (eqJoin_any _ _ _ _ _ _ _ _ _ _ _ _ M L R _ _ _ G_4.out.r0.qs G_4.out.r1.qs R__4.out.r0.qs R__4.out.r1.qs rfl rfl rfl rfl (Nat.le_refl _) (Nat.le_refl _)).mono ?_
  rintro e w5 ⟨rfl, hb⟩
  clear qOR_4
  have R__5 := Lib.hid (R__4.out.below hb (by first | omega | (simp only [World.size_alloc]; omega) | (simp only [size_drew_]; omega) | (simp only [World.size_alloc, size_drew_]; omega)))
  clear R__4
  have OR_5 := Lib.hid (OR_4.out.below hb)
  clear OR_4
  have G_5 := Lib.hid (G_4.out.below hb (by first | omega | (simp only [World.size_alloc]; omega) | (simp only [size_drew_]; omega) | (simp only [World.size_alloc, size_drew_]; omega)))
  clear G_4
  have OG_5 := Lib.hid (OG_4.out.below hb)
  clear OG_4
  have BB_5 := Lib.hid (BB_4.out.trans (hb.mono (by first | omega | (simp only [World.size_alloc]; omega) | (simp only [size_drew_]; omega) | (simp only [World.size_alloc, size_drew_]; omega))))
  clear BB_4
  have s5 := hb.size
  simp only [World.size_alloc] at s5
  clear hb
  have qOG_5 := OG_5.out.cell
  go_wp2_with fail
  refine (markJoin_m _ _ _ _ 1 M _ L R _ _ _ _ G_5.out rfl (by first | omega | (simp only [World.size_alloc]; omega) | (simp only [size_drew_]; omega) | (simp only [World.size_alloc, size_drew_]; omega)) (by first | omega | (simp only [World.size_alloc]; omega) | (simp only [size_drew_]; omega) | (simp only [World.size_alloc, size_drew_]; omega)) (by omega) (by omega) (by omega)).mono ?_
  rintro e w6 ⟨rfl, hm⟩
  clear qOG_5
  have G_6 := Lib.hid hm.many
  have hb := hm.spn.below (by first | omega | (simp only [World.size_alloc]; omega) | (simp only [size_drew_]; omega) | (simp only [World.size_alloc, size_drew_]; omega))
  have R__6 := Lib.hid (R__5.out.spn hm.spn (by first | omega | (simp only [World.size_alloc]; omega) | (simp only [size_drew_]; omega) | (simp only [World.size_alloc, size_drew_]; omega)))
  clear R__5
  have OR_6 := Lib.hid (OR_5.out.spn hm.spn (by first | omega | (simp only [World.size_alloc]; omega) | (simp only [size_drew_]; omega) | (simp only [World.size_alloc, size_drew_]; omega)))
  clear OR_5
  have OG_6 := Lib.hid (OG_5.out.spn hm.spn (by first | omega | (simp only [World.size_alloc]; omega) | (simp only [size_drew_]; omega) | (simp only [World.size_alloc, size_drew_]; omega)))
  clear OG_5
  have BB_6 := Lib.hid (BB_5.out.trans (hb.mono (by first | omega | (simp only [World.size_alloc]; omega) | (simp only [size_drew_]; omega) | (simp only [World.size_alloc, size_drew_]; omega))))
  clear BB_5
  clear G_5
  have s6 := hb.size
  clear hb hm
  have qOG_6 := OG_6.out.cell
  go_wp2_with fail
  refine (heldJoin_m _ _ _ _ _ _ 1 M _ _ _ G_6.out.r0.qs G_6.out.r1.qs (Nat.le_refl _) rfl (by omega) (by omega) (by omega)).mono ?_
  rintro e w7 ⟨rfl, hb⟩
  clear qOG_6
  have R__7 := Lib.hid (R__6.out.below hb (by first | omega | (simp only [World.size_alloc]; omega) | (simp only [size_drew_]; omega) | (simp only [World.size_alloc, size_drew_]; omega)))
  clear R__6
  have OR_7 := Lib.hid (OR_6.out.below hb)
  clear OR_6
  have G_7 := Lib.hid (G_6.out.below hb (by first | omega | (simp only [World.size_alloc]; omega) | (simp only [size_drew_]; omega) | (simp only [World.size_alloc, size_drew_]; omega)))
  clear G_6
  have OG_7 := Lib.hid (OG_6.out.below hb)
  clear OG_6
  have BB_7 := Lib.hid (BB_6.out.trans (hb.mono (by first | omega | (simp only [World.size_alloc]; omega) | (simp only [size_drew_]; omega) | (simp only [World.size_alloc, size_drew_]; omega))))
  clear BB_6
  have s7 := hb.size
  clear hb
  go_wp2_with fail
  refine (IP.out _).mono ?_
  rintro e w8 ⟨a8, c8, a8b, c8b, rfl, ho, hb⟩
  have R__8 := Lib.hid (R__7.out.below hb (by first | omega | (simp only [World.size_alloc]; omega) | (simp only [size_drew_]; omega) | (simp only [World.size_alloc, size_drew_]; omega)))
  clear R__7
  have OR_8 := Lib.hid (OR_7.out.below hb)
  clear OR_7
  have G_8 := Lib.hid (G_7.out.below hb (by first | omega | (simp only [World.size_alloc]; omega) | (simp only [size_drew_]; omega) | (simp only [World.size_alloc, size_drew_]; omega)))
  clear G_7
  have OG_8 := Lib.hid (OG_7.out.below hb)
  clear OG_7
  have BB_8 := Lib.hid (BB_7.out.trans (hb.mono (by first | omega | (simp only [World.size_alloc]; omega) | (simp only [size_drew_]; omega) | (simp only [World.size_alloc, size_drew_]; omega))))
  clear BB_7
  have H__8 := Lib.hid ho
  clear ho
  have s8 := hb.size
  clear hb
  have R__9 := Lib.hid (R__8.out.below ((Below.refl w8.heap.size w8).alloc (Nat.le_refl _) (.cells #[.slice a8 (L).length c8, .slice a8b (R).length c8b, .int .i64 M] 29)) (by first | omega | (simp only [World.size_alloc]; omega) | (simp only [size_drew_]; omega) | (simp only [World.size_alloc, size_drew_]; omega)))
  clear R__8
  have OR_9 := Lib.hid (OR_8.out.alloc (.cells #[.slice a8 (L).length c8, .slice a8b (R).length c8b, .int .i64 M] 29))
  clear OR_8
  have G_9 := Lib.hid (G_8.out.below ((Below.refl w8.heap.size w8).alloc (Nat.le_refl _) (.cells #[.slice a8 (L).length c8, .slice a8b (R).length c8b, .int .i64 M] 29)) (by first | omega | (simp only [World.size_alloc]; omega) | (simp only [size_drew_]; omega) | (simp only [World.size_alloc, size_drew_]; omega)))
  clear G_8
  have OG_9 := Lib.hid (OG_8.out.alloc (.cells #[.slice a8 (L).length c8, .slice a8b (R).length c8b, .int .i64 M] 29))
  clear OG_8
  have H__9 := Lib.hid (H__8.out.below ((Below.refl w8.heap.size w8).alloc (Nat.le_refl _) (.cells #[.slice a8 (L).length c8, .slice a8b (R).length c8b, .int .i64 M] 29)) (by first | omega | (simp only [World.size_alloc]; omega) | (simp only [size_drew_]; omega) | (simp only [World.size_alloc, size_drew_]; omega)))
  clear H__8
  have BB_9 := Lib.hid (BB_8.out.alloc (by first | omega | (simp only [World.size_alloc]; omega) | (simp only [size_drew_]; omega) | (simp only [World.size_alloc, size_drew_]; omega)) (.cells #[.slice a8 (L).length c8, .slice a8b (R).length c8b, .int .i64 M] 29))
  clear BB_8
  have OH_9 := Lib.hid (Blk.new w8 29 #[.slice a8 (L).length c8, .slice a8b (R).length c8b, .int .i64 M])
  have qOR_9 := OR_9.out.cell
  go_wp2_with fail
  refine (eqJoin_any _ _ _ _ _ _ _ _ _ _ _ _ M L R _ _ _ H__9.out.r0.qs H__9.out.r1.qs R__9.out.r0.qs R__9.out.r1.qs rfl rfl rfl rfl (Nat.le_refl _) (Nat.le_refl _)).mono ?_
  rintro e w10 ⟨rfl, hb⟩
  clear qOR_9
  have R__10 := Lib.hid (R__9.out.below hb (by first | omega | (simp only [World.size_alloc]; omega) | (simp only [size_drew_]; omega) | (simp only [World.size_alloc, size_drew_]; omega)))
  clear R__9
  have OR_10 := Lib.hid (OR_9.out.below hb)
  clear OR_9
  have G_10 := Lib.hid (G_9.out.below hb (by first | omega | (simp only [World.size_alloc]; omega) | (simp only [size_drew_]; omega) | (simp only [World.size_alloc, size_drew_]; omega)))
  clear G_9
  have OG_10 := Lib.hid (OG_9.out.below hb)
  clear OG_9
  have H__10 := Lib.hid (H__9.out.below hb (by first | omega | (simp only [World.size_alloc]; omega) | (simp only [size_drew_]; omega) | (simp only [World.size_alloc, size_drew_]; omega)))
  clear H__9
  have OH_10 := Lib.hid (OH_9.out.below hb)
  clear OH_9
  have BB_10 := Lib.hid (BB_9.out.trans (hb.mono (by first | omega | (simp only [World.size_alloc]; omega) | (simp only [size_drew_]; omega) | (simp only [World.size_alloc, size_drew_]; omega))))
  clear BB_9
  have s10 := hb.size
  simp only [World.size_alloc] at s10
  clear hb
  have qOG_10 := OG_10.out.cell
  go_wp2_with fail
  refine (heldJoin_m _ _ _ _ _ _ 1 M _ _ _ G_10.out.r0.qs G_10.out.r1.qs (Nat.le_refl _) rfl (by omega) (by omega) (by omega)).mono ?_
  rintro e w11 ⟨rfl, hb⟩
  clear qOG_10
  have R__11 := Lib.hid (R__10.out.below hb (by first | omega | (simp only [World.size_alloc]; omega) | (simp only [size_drew_]; omega) | (simp only [World.size_alloc, size_drew_]; omega)))
  clear R__10
  have OR_11 := Lib.hid (OR_10.out.below hb)
  clear OR_10
  have G_11 := Lib.hid (G_10.out.below hb (by first | omega | (simp only [World.size_alloc]; omega) | (simp only [size_drew_]; omega) | (simp only [World.size_alloc, size_drew_]; omega)))
  clear G_10
  have OG_11 := Lib.hid (OG_10.out.below hb)
  clear OG_10
  have H__11 := Lib.hid (H__10.out.below hb (by first | omega | (simp only [World.size_alloc]; omega) | (simp only [size_drew_]; omega) | (simp only [World.size_alloc, size_drew_]; omega)))
  clear H__10
  have OH_11 := Lib.hid (OH_10.out.below hb)
  clear OH_10
  have BB_11 := Lib.hid (BB_10.out.trans (hb.mono (by first | omega | (simp only [World.size_alloc]; omega) | (simp only [size_drew_]; omega) | (simp only [World.size_alloc, size_drew_]; omega))))
  clear BB_10
  have s11 := hb.size
  clear hb
  go_wp2
  go_ret
  exact ⟨rfl, BB_11.out⟩

set_option maxRecDepth 100000 in
theorem lifted (os : Os) (started : os.Started) (H : Type) (enc : TypeId × Value → H) :
    ReturnsInHanded {} Try.checked os 10 .any (Rows.fnExactNewJoinSpec.pre6 enc Try.prog Try.f10 Rows.fnExactNewJoinRow.domain false) (Rows.fnExactNewJoinSpec.post enc Try.prog Try.f10 false true false false) := by
  refine returnsInHanded_of_change (C := Try.checked) own started (by kernel_rfl) Try.func10
    (ChangeSpec.witness6 (enc := enc) (C := Try.checked) false ⟨#[], #[], []⟩ 8 (by kernel_rfl) (by kernel_rfl) (by kernel_rfl) (by kernel_rfl)) ?_
  intro W base args ds gs before hval0 hW hcnd _
  have hval : ∀ (j : Nat) t v, Try.f10.params[j]? = some t → args[j]? = some v → Value.okWide Try.prog W .any base t v := hval0
  have hW' := hW
  obtain ⟨p, q, hA0, hV, rfl, hfz, hnd⟩ := hW
  have hA : DataW.TrodAll enc Try.prog W 0 (fun _ => true) true Try.f10.params.toList args.toList ds p := hA0
  rw [Try.params10] at hA hval
  obtain ⟨hnil, rfl, rfl⟩ := trodAll_nil hA
  obtain rfl : args = #[] := by cases args; simp_all
  obtain ⟨rfl, rfl⟩ := trodVars_none hV
  clear hA0 hval0
  refine (walk W ).mono fun e W' ⟨he, bel⟩ => ?_
  subst he
  exact ⟨_, rfl, _, _, _, [], _, [], hW', trodAll_mk1 (shut_bool Try.underlying4 _), trodAll_mk0, rfl, bel.frame _, fun h => by cases h⟩

theorem over : Rows.fnExactNewJoinRow.holds Try.pinned (OpenSpec.ofChange Rows.fnExactNewJoinSpec) :=
  OpenClaim.holds_of_wide 10 Try.f10 rfl rfl rfl rfl rfl rfl rfl ⟨rfl, rfl, rfl, rfl, rfl⟩ rfl rfl rfl rfl rfl (by kernel_rfl) Try.func10 (by kernel_rfl)
    (of_decide_eq_true (by kernel_rfl)) (by unfold Func.isWrapper; first | (rw [if_pos (by decide +kernel)]; kernel_rfl) | (rw [if_neg (by decide +kernel)]; exact ⟨rfl, rfl⟩))
    (fun os started H enc _ => lifted os started H enc)

theorem proved : Rows.FnExactNewJoinSaid := over
#print axioms proved
end Go.Proofs.Ytneolndbhklboaa.fnExactNewJoin
