/- Chapter 11, spec's side: l11Fine, l11First, l11Many, SlideEnd, CoverCount, SlidesOf. (made by tools/mkslide.py) -/
import Derived.Test.YtchbmnpajnlijaaPlainSlide
import Derived.Deep.RegionWith
import Derived.StillTailTactics
import Derived.OwnWalk
import Derived.Laws.MakeOwn
import Derived.Laws.OwnMore
import Derived.Lib.AppendZeros
import Derived.Test.YtchbmnpajnlijaaAppI
namespace Go.Proofs.Ytchbmnpajnlijaa
open Go.RowKit

theorem sFine_any (s h : Int) (w : World) : Calls Try.prog 60 #[.int .i64 s, .int .i64 h] w fun e w' => e = .returned (.bool (slFine s h)) ∧ w = w' := by
  unfold slFine
  cases h1 : inB s 1 1000000 with
  | false =>
    go_enter Try.func60, Try.ntmps60
    go_wp2_with (go_at_call 59; refine (specIn_any _ _ _ _).mono ?_; rintro e w' ⟨rfl, rfl⟩)
    go_ret
    exact ⟨rfl, rfl⟩
  | true =>
    go_enter Try.func60, Try.ntmps60
    go_wp2_with (go_at_call 59; refine (specIn_any _ _ _ _).mono ?_; rintro e w' ⟨rfl, rfl⟩)
    go_ret
    exact ⟨rfl, rfl⟩
set_option maxHeartbeats 1000000 in
theorem sFirst_any (t s h : Int) (w : World) (kt : 0 ≤ t ∧ t ≤ 1000000) (k : slFine s h = true) : Calls Try.prog 62 #[.int .i64 t, .int .i64 s, .int .i64 h] w fun e w' => e = .returned (.int .i64 (slFirst t s h)) ∧ w = w' := by
  obtain ⟨⟨a1, a2⟩, b1, b2⟩ := slFine_bd k
  by_cases hlt : t < s
  · rw [slFirst_lo hlt]
    go_enter Try.func62, Try.ntmps62
    go_wp2
    go_ret
    exact ⟨rfl, rfl⟩
  · rw [slFirst_hi hlt]
    have hq : (t - s).tdiv h = (t - s) / h := Int.tdiv_eq_ediv_of_nonneg (by omega)
    have hs0 : ¬ h = 0 := by omega
    have hq1 : 0 ≤ (t - s) / h := Int.ediv_nonneg (by omega) (by omega)
    have hq2 : (t - s) / h ≤ t - s := Int.ediv_le_self _ (by omega)
    clear k
    go_enter Try.func62, Try.ntmps62
    go_wp2
    go_ret
    exact ⟨rfl, rfl⟩
set_option maxHeartbeats 1000000 in
theorem sMany_any (t s h : Int) (w : World) (kt : 0 ≤ t ∧ t ≤ 1000000) (k : slFine s h = true) : Calls Try.prog 61 #[.int .i64 t, .int .i64 s, .int .i64 h] w fun e w' => e = .returned (.bool (decide (300 < slNum t s h))) ∧ Below w.heap.size w w' := by
  have FI := Lib.hid (fun W => sFirst_any t s h W kt k)
  have bb := sl_bds kt k
  obtain ⟨⟨a1, a2⟩, b1, b2⟩ := slFine_bd k
  have hq : t.tdiv h = t / h := Int.tdiv_eq_ediv_of_nonneg kt.1
  have hs0 : ¬ h = 0 := by omega
  have BD := Lib.hid ((Below.refl w.heap.size w).drew)
  unfold slNum
  generalize slFirst t s h = F at FI bb ⊢
  clear k
  generalize t / h = q at hq bb ⊢
  have w1 : IntKind.i64.wrap q = q := IntWalk.i64_in _ (by omega)
  have w2 : IntKind.i64.wrap (q - F) = q - F := IntWalk.i64_in _ (by omega)
  have w3 : IntKind.i64.wrap (q - F + 1) = q - F + 1 := IntWalk.i64_in _ (by omega)
  go_enter Try.func61, Try.ntmps61
  go_wp2_with fail
  go_region_with (go_at_call 62; refine (FI.out _).mono ?_; rintro e w' ⟨rfl, rfl⟩)
  all_goals
    go_wp2
    go_ret
    exact ⟨rfl, BD.out⟩
set_option maxHeartbeats 1000000 in
theorem specSlEnd_any (k s h : Int) (w : World) : Calls Try.prog 19 #[.int .i64 k, .int .i64 s, .int .i64 h] w fun e w' => e = .returned (.int .i64 (slideEnd k s h)) ∧ w = w' := by
  cases h1 : inB k 0 1000000 with
  | false =>
    rw [slideEnd_no1 h1]
    go_enter Try.func19, Try.ntmps19
    go_wp2_with (first | (go_at_call 59; refine (specIn_any _ _ _ _).mono ?_; rintro e w' ⟨rfl, rfl⟩) | (go_at_call 60; refine (sFine_any _ _ _).mono ?_; rintro e w' ⟨rfl, rfl⟩))
    go_ret
    exact ⟨rfl, rfl⟩
  | true =>
    cases h2 : slFine s h with
    | false =>
      rw [slideEnd_no2 h2]
      go_enter Try.func19, Try.ntmps19
      go_wp2_with (first | (go_at_call 59; refine (specIn_any _ _ _ _).mono ?_; rintro e w' ⟨rfl, rfl⟩) | (go_at_call 60; refine (sFine_any _ _ _).mono ?_; rintro e w' ⟨rfl, rfl⟩))
      go_ret
      exact ⟨rfl, rfl⟩
    | true =>
      rw [slideEnd_yes h1 h2]
      have b1 := inB_bd h1
      have b2 := slFine_bd h2
      have pb := slide_prod h1 h2
      have pw : IntKind.i64.wrap (k * h) = k * h := IntWalk.i64_in _ (by omega)
      go_enter Try.func19, Try.ntmps19
      go_wp2_with (first | (go_at_call 59; refine (specIn_any _ _ _ _).mono ?_; rintro e w' ⟨rfl, rfl⟩) | (go_at_call 60; refine (sFine_any _ _ _).mono ?_; rintro e w' ⟨rfl, rfl⟩))
      go_ret
      exact ⟨rfl, rfl⟩
set_option maxHeartbeats 1000000 in
theorem specCover_any (s h : Int) (w : World) : Calls Try.prog 21 #[.int .i64 s, .int .i64 h] w fun e w' => e = .returned (.int .i64 (coverN s h)) ∧ w = w' := by
  cases h2 : slFine s h with
  | false =>
    rw [coverN_no h2]
    go_enter Try.func21, Try.ntmps21
    go_wp2_with (go_at_call 60; refine (sFine_any _ _ _).mono ?_; rintro e w' ⟨rfl, rfl⟩)
    go_ret
    exact ⟨rfl, rfl⟩
  | true =>
    rw [coverN_yes h2]
    have b2 := slFine_bd h2
    have hq : (s + h - 1).tdiv h = (s + h - 1) / h := Int.tdiv_eq_ediv_of_nonneg (by omega)
    have hs0 : ¬ h = 0 := by omega
    have hq1 : 0 ≤ (s + h - 1) / h := Int.ediv_nonneg (by omega) (by omega)
    have hq2 : (s + h - 1) / h ≤ s + h - 1 := Int.ediv_le_self _ (by omega)
    go_enter Try.func21, Try.ntmps21
    go_wp2_with (go_at_call 60; refine (sFine_any _ _ _).mono ?_; rintro e w' ⟨rfl, rfl⟩)
    go_ret
    exact ⟨rfl, rfl⟩
set_option maxHeartbeats 4000000 in
set_option maxRecDepth 100000 in
theorem specSlides_any (t s h : Int) (w : World) : Calls Try.prog 14 #[.int .i64 t, .int .i64 s, .int .i64 h] w (FreshNums 3 .i64 (slidesL t s h) w) := by
  have HP : Hid (∀ W, Below w.heap.size w W → FreshNums 3 .i64 [] w (.returned (.slice none 0 0)) W) := Lib.hid (fun W h => ⟨none, 0, rfl, World.ownsRow_nil _ _ _ _, h⟩)
  cases h1 : inB t 0 1000000 with
  | false =>
    rw [slides_no1 h1]
    go_enter Try.func14, Try.ntmps14
    go_wp2_with (first | (go_at_call 59; refine (specIn_any _ _ _ _).mono ?_; rintro e w' ⟨rfl, rfl⟩) | (go_at_call 60; refine (sFine_any _ _ _).mono ?_; rintro e w' ⟨rfl, rfl⟩))
    exact bodyPost_ret (v := .slice none 0 0) (by simp [results, Try.results14, go_sem]) rfl (HP.out _ ((Below.refl _ _).alloc (Nat.le_refl _) _))
  | true =>
    cases h2 : slFine s h with
    | false =>
      rw [slides_no2 h2]
      go_enter Try.func14, Try.ntmps14
      go_wp2_with (first | (go_at_call 59; refine (specIn_any _ _ _ _).mono ?_; rintro e w' ⟨rfl, rfl⟩) | (go_at_call 60; refine (sFine_any _ _ _).mono ?_; rintro e w' ⟨rfl, rfl⟩))
      exact bodyPost_ret (v := .slice none 0 0) (by simp [results, Try.results14, go_sem]) rfl (HP.out _ ((Below.refl _ _).alloc (Nat.le_refl _) _))
    | true =>
      have b1 := inB_bd h1
      have MA := Lib.hid (fun W => sMany_any t s h W b1 h2)
      by_cases h3 : 300 < slNum t s h
      · rw [slides_no3 h3]
        rw [decide_eq_true h3] at MA
        go_enter Try.func14, Try.ntmps14
        go_wp2_with (first | (go_at_call 59; refine (specIn_any _ _ _ _).mono ?_; rintro e w' ⟨rfl, rfl⟩) | (go_at_call 60; refine (sFine_any _ _ _).mono ?_; rintro e w' ⟨rfl, rfl⟩) | (go_at_call 61; refine (MA.out _).mono ?_; rintro e w1 ⟨rfl, hb⟩; have B1 := Lib.hid (((Below.refl w.heap.size w).alloc (Nat.le_refl _) (.cells #[] 3)).trans (hb.mono (by simp))); have O1 := Lib.hid (owns_below (World.ownsRow_lit (e := 3) (size := 1) w #[] 0 (Nat.le_refl w.heap.size) (by unfold maxLen; omega) (by simp)) hb); clear hb))
        exact bodyPost_ret (v := .slice none 0 0) (by simp [results, Try.results14, go_sem]) rfl (HP.out _ B1.out)
      · rw [decide_eq_false h3] at MA
        have FI := Lib.hid (fun W => sFirst_any t s h W b1 h2)
        have hG := slGood_yes h1 h2 h3
        have HL := Lib.hid (slides_len hG)
        have HS := Lib.hid (fun (j : Nat) hj => slides_step hG (j := j) hj)
        have bb := sl_bds b1 h2
        have nb := slNum_bd b1 h2
        obtain ⟨_, c1, c2⟩ := slFine_bd h2
        have hq : t.tdiv h = t / h := Int.tdiv_eq_ediv_of_nonneg b1.1
        have hs0 : ¬ h = 0 := by omega
        have w0 : IntKind.i64.wrap (t / h) = t / h := IntWalk.i64_in _ (by omega)
        have hN : t / h = slFirst t s h + ((slNum t s h).toNat : Int) - 1 := by unfold slNum at nb ⊢; omega
        generalize slidesL t s h = R at HL HS ⊢
        generalize slFirst t s h = F at FI bb HS hN
        have hN3 : (slNum t s h).toNat ≤ 300 := by omega
        generalize (slNum t s h).toNat = N at HL HS hN hN3
        rw [hN] at hq w0
        have bb2 : 0 ≤ F ∧ F ≤ 1000001 := by omega
        clear bb nb h3 hG hN
        go_enter Try.func14, Try.ntmps14
        go_wp2_with (first | (go_at_call 59; refine (specIn_any _ _ _ _).mono ?_; rintro e w' ⟨rfl, rfl⟩) | (go_at_call 60; refine (sFine_any _ _ _).mono ?_; rintro e w' ⟨rfl, rfl⟩) | (go_at_call 61; refine (MA.out _).mono ?_; rintro e w1 ⟨rfl, hb⟩; have B1 := Lib.hid (((Below.refl w.heap.size w).alloc (Nat.le_refl _) (.cells #[] 3)).trans (hb.mono (by simp))); have O1 := Lib.hid (owns_below (World.ownsRow_lit (e := 3) (size := 1) w #[] 0 (Nat.le_refl w.heap.size) (by unfold maxLen; omega) (by simp)) hb); clear hb) | (go_at_call 62; refine (FI.out _).mono ?_; rintro e w' ⟨rfl, rfl⟩))
        clear h1 h2
        go_loopw [7, 8] (fun ks i wr => ∃ (j : Nat) (a2 : Option Addr) (c2 : Nat), j ≤ N ∧ i = .int .i64 (F + (j : Int)) ∧ ks = .slice a2 j c2 ∧ wr.ownsRow w.heap.size 3 1 (.slice a2 j c2) j ((R.take j).map (Value.int .i64)) ∧ Below w.heap.size w wr) (fun _ i _ => (F + (N : Int) - intOf i).toNat)
        case atStart => exact ⟨0, some ⟨w.heap.size, 0, none⟩, 0, Nat.zero_le _, by simp, rfl, O1.out, B1.out⟩
        case round =>
          obtain ⟨j, a2, c2, hj, rfl, rfl, hown, hb⟩ := hrel
          have HO := Lib.hid hown
          have HB := Lib.hid hb
          clear hown hb
          by_cases hlt : j < N
          · have hlt' : F + (j : Int) ≤ F + (N : Int) - 1 := by omega
            have HE := Lib.hid (HS.out j hlt)
            have htl : j = (R.take j).length := by rw [List.length_take, HL.out]; omega
            obtain ⟨a3, c3, w3, hr3, ho3, hb3, _⟩ := appendI (w := wr) (F + (j : Int)) htl HO.out HB.out.size (by omega) 22
            have R3 := Lib.hid hr3
            have HO3 := Lib.hid ho3
            have HB3 := Lib.hid (HB.out.trans hb3)
            clear hr3 ho3 hb3 htl
            go_wp2_with (at_builtin; refine Lib.wpList_append_run _ rfl _ _ _ _ rfl _ _ rfl rfl _ _ R3.out ?_)
            go_roundw
            case rel => exact ⟨j + 1, a3, c3, by omega, by go_num, rfl, by rw [HE.out]; exact HO3.out, HB3.out⟩
            case measure => simp [intOf]; omega
          · obtain rfl : j = N := by omega
            have hlt' : ¬ (F + (j : Int) ≤ F + (j : Int) - 1) := by omega
            have HZ : Hid (FreshNums 3 .i64 R w (.returned (.slice a2 j c2)) wr) := Lib.hid (by
              have e : R.take j = R := List.take_of_length_le (by rw [HL.out]; omega)
              have o := HO.out
              rw [e] at o
              exact ⟨a2, c2, by rw [HL.out], by rw [HL.out]; exact o, HB.out⟩)
            go_wp2
            exact bodyPost_ret (v := .slice a2 _ c2) (by simp [results, Try.results14, go_sem]) rfl HZ.out
end Go.Proofs.Ytchbmnpajnlijaa
