/- slices.rotateCmpFunc over aggs. (made by tools/mkstab.py) -/
import Derived.Test.YtchbmnpajnlijaaStab1
namespace Go.Proofs.Ytchbmnpajnlijaa
open Go.RowKit Stab
set_option maxHeartbeats 4000000 in
set_option maxRecDepth 100000 in
theorem rotate_x (F : Value) (g c lo n a m b : Nat) (P U V S : List Ag) (w : World) (h : w.ownsRow lo 86 6 (.slice (some ⟨g, 0, none⟩) n c) n (flatA (P ++ U ++ V ++ S))) (ha : a = P.length) (hm : m = P.length + U.length) (hb : b = P.length + U.length + V.length) (hU : 0 < U.length) (hV : 0 < V.length) :
    Calls Try.prog 151 #[(.slice (some ⟨g, 0, none⟩) n c), .int .i64 (a : Int), .int .i64 (m : Int), .int .i64 (b : Int), F] w fun e w' => e = .returned (.tuple #[]) ∧ Rt 86 g c lo n w w' (P ++ V ++ U ++ S) := by
  have hcap := ownR_cap h
  have R0 := Lib.hid (Rt.start h)
  have hn : n = P.length + U.length + V.length + S.length := by rw [R0.out.len]; simp; omega
  have hbn : b ≤ n := by omega
  have hmb : m < b := by omega
  have ham : a < m := by omega
  obtain ⟨iu, hiu⟩ : ∃ i, i = U.length := ⟨_, rfl⟩
  obtain ⟨jv, hjv⟩ : ∃ j, j = V.length := ⟨_, rfl⟩
  have w1 : IntKind.i64.wrap ((m : Int) - (a : Int)) = (iu : Int) := by rw [show (m : Int) - (a : Int) = (iu : Int) by omega]; exact IntWalk.i64_in _ (by omega)
  have w2 : IntKind.i64.wrap ((b : Int) - (m : Int)) = (jv : Int) := by rw [show (b : Int) - (m : Int) = (jv : Int) by omega]; exact IntWalk.i64_in _ (by omega)
  have BGN : Hid (∃ i j : Nat, ∃ P' U' V' S' : List Ag, Value.int .i64 (iu : Int) = .int .i64 (i : Int) ∧ Value.int .i64 (jv : Int) = .int .i64 (j : Int) ∧ i = U'.length ∧ j = V'.length ∧ P'.length + i = m ∧ 0 < i ∧ 0 < j ∧ m + j ≤ b ∧ P' ++ V' ++ U' ++ S' = P ++ V ++ U ++ S ∧ Rt 86 g c lo n w w (P' ++ U' ++ V' ++ S')) :=
    Lib.hid ⟨iu, jv, P, U, V, S, rfl, rfl, hiu, hjv, by omega, by omega, by omega, by omega, rfl, R0.out⟩
  clear h ha hm hb hU hV hn hiu hjv
  go_enter Try.func151, Try.ntmps151
  go_wp2
  go_loopw [10, 11] (fun x y wr => ∃ i j : Nat, ∃ P' U' V' S' : List Ag, x = .int .i64 (i : Int) ∧ y = .int .i64 (j : Int) ∧ i = U'.length ∧ j = V'.length ∧ P'.length + i = m ∧ 0 < i ∧ 0 < j ∧ m + j ≤ b ∧ P' ++ V' ++ U' ++ S' = P ++ V ++ U ++ S ∧ Rt 86 g c lo n w wr (P' ++ U' ++ V' ++ S')) (fun x y _ => (intOf x).toNat + (intOf y).toNat)
  case atStart => exact BGN.out
  case round =>
    obtain ⟨i, j, P', U', V', S', rfl, rfl, hi, hj, hpm, hi0, hj0, hjb, hT, hr⟩ := hrel
    have HI := Lib.hid hi
    have HJ := Lib.hid hj
    have HP := Lib.hid hpm
    have HT := Lib.hid hT
    have R := Lib.hid hr
    obtain ⟨q, hq⟩ : ∃ q, q = P'.length := ⟨_, rfl⟩
    have hqm : q + i = m := by omega
    have HQ := Lib.hid hq
    have w3 : IntKind.i64.wrap ((m : Int) - (i : Int)) = (q : Int) := by rw [show (m : Int) - (i : Int) = (q : Int) by omega]; exact IntWalk.i64_in _ (by omega)
    clear hi hj hpm hT hr hq
    by_cases he : i = j
    · subst he
      clear hqm
      have C := Lib.hid (swapRange_x F g c lo n q m i P' U' [] V' S' wr (by have := R.out.own; simpa using this) (HI.out.symm.trans HJ.out) HQ.out (by have := HP.out; have := HI.out; simp; omega) HI.out)
      have hne : ((i : Int) != (i : Int)) = false := by simp
      go_wp2_with fail
      refine C.out.mono ?_
      rintro e w' ⟨rfl, hr⟩
      have R2 := Lib.hid (R.out.trans hr)
      clear hr
      go_wp2
      go_end0
      refine ⟨rfl, ?_⟩
      have := R2.out
      rw [show P' ++ V' ++ [] ++ U' ++ S' = P' ++ V' ++ U' ++ S' by simp, HT.out] at this
      exact this
    · have hne : ((i : Int) != (j : Int)) = true := by simp; omega
      by_cases hlt : j < i
      · obtain ⟨i2, hi2⟩ : ∃ i2, i2 = i - j := ⟨_, rfl⟩
        have w4 : IntKind.i64.wrap ((i : Int) - (j : Int)) = (i2 : Int) := by rw [show (i : Int) - (j : Int) = (i2 : Int) by omega]; exact IntWalk.i64_in _ (by omega)
        have hgt : (j : Int) < (i : Int) := by omega
        have hq2 : P'.length + (U'.take j).length + (U'.drop j).length = m := by have := HI.out; have := HQ.out; simp; omega
        have C := Lib.hid (swapRange_x F g c lo n q m j P' (U'.take j) (U'.drop j) V' S' wr (by have := R.out.own; simpa using this) (by rw [List.length_take, ← HJ.out]; have := HI.out; omega) HQ.out hq2.symm (by rw [List.length_take]; have := HI.out; omega))
        have NEW : Hid (∀ w', Rt 86 g c lo n wr w' (P' ++ V' ++ U'.drop j ++ U'.take j ++ S') → ∃ i' j' : Nat, ∃ P'' U'' V'' S'' : List Ag, Value.int .i64 (i2 : Int) = .int .i64 (i' : Int) ∧ Value.int .i64 (j : Int) = .int .i64 (j' : Int) ∧ i' = U''.length ∧ j' = V''.length ∧ P''.length + i' = m ∧ 0 < i' ∧ 0 < j' ∧ m + j' ≤ b ∧ P'' ++ V'' ++ U'' ++ S'' = P ++ V ++ U ++ S ∧ Rt 86 g c lo n w w' (P'' ++ U'' ++ V'' ++ S'')) :=
          Lib.hid fun w' hr => ⟨i2, j, P' ++ V', U'.drop j, U'.take j, S', rfl, rfl, by rw [List.length_drop, ← HI.out]; exact hi2, by rw [List.length_take]; have := HI.out; omega, by have := HJ.out; have := HQ.out; simp; omega, by omega, hj0, hjb, by
            rw [← HT.out]
            conv => rhs; rw [← List.take_append_drop j U']
            simp, R.out.trans hr⟩
        have hms : i2 + j < i + j := by omega
        clear hqm hi2 hq2
        go_wp2_with fail
        refine C.out.mono ?_
        rintro e w' ⟨rfl, hr⟩
        have N2 := Lib.hid (NEW.out _ hr)
        clear hr
        go_wp2
        go_roundw
        case rel => exact N2.out
        case measure => simp [intOf]; omega
      · obtain ⟨j2, hj2⟩ : ∃ j2, j2 = j - i := ⟨_, rfl⟩
        obtain ⟨e1, he1⟩ : ∃ e1, e1 = m + j := ⟨_, rfl⟩
        obtain ⟨e2, he2⟩ : ∃ e2, e2 = m + j - i := ⟨_, rfl⟩
        have w4 : IntKind.i64.wrap ((j : Int) - (i : Int)) = (j2 : Int) := by rw [show (j : Int) - (i : Int) = (j2 : Int) by omega]; exact IntWalk.i64_in _ (by omega)
        have w5 : IntKind.i64.wrap ((m : Int) + (j : Int)) = (e1 : Int) := by rw [show (m : Int) + (j : Int) = (e1 : Int) by omega]; exact IntWalk.i64_in _ (by omega)
        have w6 : IntKind.i64.wrap ((e1 : Int) - (i : Int)) = (e2 : Int) := by rw [show (e1 : Int) - (i : Int) = (e2 : Int) by omega]; exact IntWalk.i64_in _ (by omega)
        have hgt : ¬ (j : Int) < (i : Int) := by omega
        have hq2 : P'.length + U'.length + (V'.take j2).length = e2 := by have := HI.out; have := HJ.out; have := HQ.out; simp; omega
        have C := Lib.hid (swapRange_x F g c lo n q e2 i P' U' (V'.take j2) (V'.drop j2) S' wr (by have := R.out.own; simpa using this) (by rw [List.length_drop, ← HJ.out, ← HI.out]; omega) HQ.out hq2.symm HI.out)
        have NEW : Hid (∀ w', Rt 86 g c lo n wr w' (P' ++ V'.drop j2 ++ V'.take j2 ++ U' ++ S') → ∃ i' j' : Nat, ∃ P'' U'' V'' S'' : List Ag, Value.int .i64 (i : Int) = .int .i64 (i' : Int) ∧ Value.int .i64 (j2 : Int) = .int .i64 (j' : Int) ∧ i' = U''.length ∧ j' = V''.length ∧ P''.length + i' = m ∧ 0 < i' ∧ 0 < j' ∧ m + j' ≤ b ∧ P'' ++ V'' ++ U'' ++ S'' = P ++ V ++ U ++ S ∧ Rt 86 g c lo n w w' (P'' ++ U'' ++ V'' ++ S'')) :=
          Lib.hid fun w' hr => ⟨i, j2, P', V'.drop j2, V'.take j2, U' ++ S', rfl, rfl, by rw [List.length_drop, ← HJ.out]; omega, by rw [List.length_take]; have := HJ.out; omega, by have := HQ.out; omega, hi0, by omega, by omega, by
            rw [← HT.out]
            conv => rhs; rw [← List.take_append_drop j2 V']
            simp, by have := R.out.trans hr; simpa using this⟩
        have hms : i + j2 < i + j := by omega
        clear hqm hj2 hq2 he1 he2
        go_wp2_with fail
        refine C.out.mono ?_
        rintro e w' ⟨rfl, hr⟩
        have N2 := Lib.hid (NEW.out _ hr)
        clear hr
        go_wp2
        go_roundw
        case rel => exact N2.out
        case measure => simp [intOf]; omega

end Go.Proofs.Ytchbmnpajnlijaa
