/- Chapter 11, impl's side: slides.ok, slides.at, SlidesOf, SlideEnd, CoverCount. (made by tools/mkslidei.py) -/
import Derived.Test.YtchbmnpajnlijaaPlainSlide
import Derived.Test.YtchbmnpajnlijaaWin1
import Derived.Deep.RegionWith
import Derived.StillTailTactics
import Derived.OwnWalk
import Derived.Laws.MakeOwn
import Derived.Laws.OwnMore
import Derived.Lib.AppendZeros
import Derived.Test.YtchbmnpajnlijaaAppI
import Derived.Deep.QuietTactic
import Derived.BigQuiet
namespace Go.Proofs.Ytchbmnpajnlijaa
open Go.RowKit

theorem slOk_x (s h : Int) (w : World) : Calls Try.prog 64 #[(.agg #[.int .i64 s, .int .i64 h])] w fun e w' => e = .returned (.bool (slFine s h)) ∧ Below w.heap.size w w' := by
  have B0 := Lib.hid ((Below.refl w.heap.size w).alloc (Nat.le_refl _) (.cells #[.int .i64 s, .int .i64 h] 77))
  unfold slFine
  cases h1 : inB s 1 1000000 with
  | false =>
    go_enter Try.func64, Try.ntmps64
    go_wp2_with (go_at_call 103; refine (iSize_any _ _).mono ?_; rintro e w' ⟨rfl, rfl⟩)
    go_ret
    exact ⟨by simp [go_sem], B0.out⟩
  | true =>
    go_enter Try.func64, Try.ntmps64
    go_wp2_with (go_at_call 103; refine (iSize_any _ _).mono ?_; rintro e w' ⟨rfl, rfl⟩)
    go_ret
    exact ⟨by simp [go_sem], B0.out⟩
def SlPost (t s h : Int) (w : World) (e : Ending) (w' : World) : Prop := ∃ a c, e = .returned (.tuple #[.slice a (slidesL t s h).length c, .bool (!decide (300 < slNum t s h))]) ∧ w'.ownsRow w.heap.size 3 1 (.slice a (slidesL t s h).length c) (slidesL t s h).length ((slidesL t s h).map (Value.int .i64)) ∧ Below w.heap.size w w'
set_option maxHeartbeats 4000000 in
set_option maxRecDepth 100000 in
theorem slAt_x (t s h : Int) (w : World) (kt : inB t 0 1000000 = true) (k : slFine s h = true) : Calls Try.prog 65 #[(.agg #[.int .i64 s, .int .i64 h]), .int .i64 t] w (SlPost t s h w) := by
  have b1 := inB_bd kt
  have bb := sl_bds b1 k
  have nb := slNum_bd b1 k
  obtain ⟨⟨a1, a2⟩, c1, c2⟩ := slFine_bd k
  have hq : t.tdiv h = t / h := Int.tdiv_eq_ediv_of_nonneg b1.1
  have hs0 : ¬ h = 0 := by omega
  have w0 : IntKind.i64.wrap (t / h) = t / h := IntWalk.i64_in _ (by omega)
  have B0 := Lib.hid ((Below.refl w.heap.size w).alloc (Nat.le_refl _) (.cells #[.int .i64 s, .int .i64 h] 77))
  have FF : (t < s ∧ slFirst t s h = 0) ∨ (¬ t < s ∧ slFirst t s h = (t - s) / h + 1 ∧ (t - s).tdiv h = (t - s) / h ∧ 0 ≤ (t - s) / h ∧ (t - s) / h ≤ t - s) := by
    by_cases hlt : t < s
    · exact .inl ⟨hlt, slFirst_lo hlt⟩
    · exact .inr ⟨hlt, slFirst_hi hlt, Int.tdiv_eq_ediv_of_nonneg (by omega), Int.ediv_nonneg (by omega) (by omega), Int.ediv_le_self _ (by omega)⟩
  by_cases h3 : 300 < slNum t s h
  · have HP : Hid (∀ W, Below w.heap.size w W → SlPost t s h w (.returned (.tuple #[.slice none 0 0, .bool false])) W) := Lib.hid (fun W hW => by
      have e := slides_no3 (t := t) (s := s) (h := h) h3
      refine ⟨none, 0, ?_, ?_, hW⟩
      · rw [e, decide_eq_true h3]; rfl
      · rw [e]; exact World.ownsRow_nil _ _ _ _)
    generalize hW : SlPost t s h w = PO at HP ⊢
    clear hW
    have h3' : 300 ≤ t / h - slFirst t s h := by unfold slNum at h3; omega
    rcases FF with ⟨hlt, hf⟩ | ⟨hlt, hf, q1, q2, q3⟩
    all_goals have hdl : decide (s ≤ t) = decide (¬ t < s) := by simp
    all_goals simp only [hlt, not_true_eq_false, not_false_eq_true, decide_true, decide_false] at hdl
    · rw [hf] at h3' bb
      rw [Int.sub_zero] at h3'
      have h3d := decide_eq_true h3'
      clear hf h3 nb kt k
      go_enter Try.func65, Try.ntmps65
      go_wp2_with fail
      go_quiet (fail)
      go_wp2
      exact HP.out _ (below_drewN B0.out nq)
    · rw [hf] at h3' bb
      have h3d := decide_eq_true h3'
      clear hf h3 nb kt k
      go_enter Try.func65, Try.ntmps65
      go_wp2_with fail
      go_quiet (fail)
      go_wp2
      exact HP.out _ (below_drewN B0.out nq)
  · have hG := slGood_yes kt k h3
    have HL := Lib.hid (slides_len hG)
    have HS := Lib.hid (fun (j : Nat) hj => slides_step hG (j := j) hj)
    have HP : Hid (∀ a2 c2 W, W.ownsRow w.heap.size 3 1 (.slice a2 (slidesL t s h).length c2) (slidesL t s h).length ((slidesL t s h).map (Value.int .i64)) → Below w.heap.size w W → SlPost t s h w (.returned (.tuple #[.slice a2 (slidesL t s h).length c2, .bool true])) W) := Lib.hid (fun a2 c2 W ho hW => ⟨a2, c2, by rw [decide_eq_false h3]; rfl, ho, hW⟩)
    generalize hW : SlPost t s h w = PO at HP ⊢
    clear hW
    have hN : t / h = slFirst t s h + ((slNum t s h).toNat : Int) - 1 := by unfold slNum at nb ⊢; omega
    generalize slidesL t s h = R at HL HS HP
    have hN3 : (slNum t s h).toNat ≤ 300 := by omega
    have h3' : t / h - slFirst t s h < 300 := by unfold slNum at h3; omega
    generalize (slNum t s h).toNat = N at HL HS hN hN3
    clear h3 nb kt k hG
    rcases FF with ⟨hlt, hf⟩ | ⟨hlt, hf, q1, q2, q3⟩
    all_goals have hdl : decide (s ≤ t) = decide (¬ t < s) := by simp
    all_goals simp only [hlt, not_true_eq_false, not_false_eq_true, decide_true, decide_false] at hdl
    · rw [hf] at h3' bb hN HS
      rw [hN] at hq w0 h3'
      have h4 : decide (300 ≤ (N : Int) - 1) = false := by simp; omega
      rw [show (0 : Int) + (N : Int) - 1 = (N : Int) - 1 by omega] at hq w0
      clear hf hN h3'
      go_enter Try.func65, Try.ntmps65
      go_wp2_with fail
      go_quiet (fail)
      go_wp2
      go_loopw [8, 9] (fun ls i wr => ∃ (j : Nat) (a2 : Option Addr) (c2 : Nat), j ≤ N ∧ i = .int .i64 ((j : Int)) ∧ ls = .slice a2 j c2 ∧ wr.ownsRow w.heap.size 3 1 (.slice a2 j c2) j ((R.take j).map (Value.int .i64)) ∧ Below w.heap.size w wr) (fun _ i _ => ((N : Int) - intOf i).toNat)
      case atStart => exact ⟨0, none, 0, Nat.zero_le _, by simp, rfl, World.ownsRow_nil _ _ _ _, below_drewN B0.out nq⟩
      case round =>
        obtain ⟨j, a2, c2, hj, rfl, rfl, hown, hb⟩ := hrel
        have HO := Lib.hid hown
        have HB := Lib.hid hb
        clear hown hb
        by_cases hlt2 : j < N
        · have hlt' : (j : Int) ≤ (N : Int) - 1 := by omega
          have HE : Hid (R.take (j + 1) = R.take j ++ [(j : Int)]) := Lib.hid ((HS.out j hlt2).trans (by first | rfl | simp))
          have htl : j = (R.take j).length := by rw [List.length_take, HL.out]; omega
          obtain ⟨a3, c3, w3, hr3, ho3, hb3, _⟩ := appendI (w := wr) ((j : Int)) htl HO.out HB.out.size (by omega) 22
          have R3 := Lib.hid hr3
          have HO3 := Lib.hid ho3
          have HB3 := Lib.hid (HB.out.trans hb3)
          clear hr3 ho3 hb3 htl
          go_wp2_with (at_builtin; refine Lib.wpList_append_run _ rfl _ _ _ _ rfl _ _ rfl rfl _ _ R3.out ?_)
          go_roundw
          case rel => exact ⟨j + 1, a3, c3, by omega, by go_num, rfl, by rw [HE.out]; exact HO3.out, HB3.out⟩
          case measure => simp [intOf]; omega
        · obtain rfl : j = N := by omega
          have hlt' : ¬ ((j : Int) ≤ (j : Int) - 1) := by omega
          have HZ := Lib.hid (HP.out a2 c2 wr (by
            have e : R.take j = R := List.take_of_length_le (by rw [HL.out]; omega)
            have o := HO.out
            rw [e] at o
            rw [HL.out]; exact o) HB.out)
          have hl2 := HL.out
          rw [hl2] at HZ
          clear hl2
          go_wp2
          exact HZ.out
    · rw [hf] at h3' bb hN HS
      obtain ⟨F, hF⟩ : ∃ F, F = (t - s) / h + 1 := ⟨_, rfl⟩
      rw [← hF] at h3' bb hN HS
      have q1' : (t - s).tdiv h = F - 1 := by omega
      have h4 : decide (300 ≤ F + (N : Int) - 1 - F) = false := by simp; omega
      have q2' : 1 ≤ F ∧ F ≤ 1000001 := by omega
      rw [hN] at hq w0 h3'
      clear hf hN hF q1 q2 q3
      go_enter Try.func65, Try.ntmps65
      go_wp2_with fail
      go_quiet (fail)
      go_wp2
      go_loopw [8, 9] (fun ls i wr => ∃ (j : Nat) (a2 : Option Addr) (c2 : Nat), j ≤ N ∧ i = .int .i64 (F + (j : Int)) ∧ ls = .slice a2 j c2 ∧ wr.ownsRow w.heap.size 3 1 (.slice a2 j c2) j ((R.take j).map (Value.int .i64)) ∧ Below w.heap.size w wr) (fun _ i _ => (F + (N : Int) - intOf i).toNat)
      case atStart => exact ⟨0, none, 0, Nat.zero_le _, by simp, rfl, World.ownsRow_nil _ _ _ _, below_drewN B0.out nq⟩
      case round =>
        obtain ⟨j, a2, c2, hj, rfl, rfl, hown, hb⟩ := hrel
        have HO := Lib.hid hown
        have HB := Lib.hid hb
        clear hown hb
        by_cases hlt2 : j < N
        · have hlt' : F + (j : Int) ≤ F + (N : Int) - 1 := by omega
          have HE : Hid (R.take (j + 1) = R.take j ++ [F + (j : Int)]) := Lib.hid ((HS.out j hlt2).trans (by first | rfl | simp))
          have htl : j = (R.take j).length := by rw [List.length_take, HL.out]; omega
          obtain ⟨a3, c3, w3, hr3, ho3, hb3, _⟩ := appendI (w := wr) (F + (j : Int)) htl HO.out HB.out.size (by omega) 22
          have R3 := Lib.hid hr3
          have HO3 := Lib.hid ho3
          have HB3 := Lib.hid (HB.out.trans hb3)
          clear hr3 ho3 hb3 htl
          go_wp2_with (at_builtin; refine Lib.wpList_append_run _ rfl _ _ _ _ rfl _ _ rfl rfl _ _ R3.out ?_)
          go_roundw
          case rel => exact ⟨j + 1, a3, c3, by omega, by go_num, rfl, by rw [HE.out]; exact HO3.out, HB3.out⟩
          case measure => simp [intOf]; omega
        · obtain rfl : j = N := by omega
          have hlt' : ¬ (F + (j : Int) ≤ F + (j : Int) - 1) := by omega
          have HZ := Lib.hid (HP.out a2 c2 wr (by
            have e : R.take j = R := List.take_of_length_le (by rw [HL.out]; omega)
            have o := HO.out
            rw [e] at o
            rw [HL.out]; exact o) HB.out)
          have hl2 := HL.out
          rw [hl2] at HZ
          clear hl2
          go_wp2
          exact HZ.out
set_option maxHeartbeats 4000000 in
set_option maxRecDepth 100000 in
theorem implSlides_any (t s h : Int) (w : World) : Calls Try.prog 15 #[.int .i64 t, .int .i64 s, .int .i64 h] w (FreshNums 3 .i64 (slidesL t s h) w) := by
  have HP : Hid (∀ W, Below w.heap.size w W → FreshNums 3 .i64 [] w (.returned (.slice none 0 0)) W) := Lib.hid (fun W h => ⟨none, 0, rfl, World.ownsRow_nil _ _ _ _, h⟩)
  have B0 := Lib.hid ((Below.refl w.heap.size w).alloc (Nat.le_refl _) (.cells #[.int .i64 s, .int .i64 h] 77))
  have FI := Lib.hid (fun W => slOk_x s h W)
  cases h1 : inB t 0 1000000 with
  | false =>
    rw [slides_no1 h1]
    go_enter Try.func15, Try.ntmps15
    go_wp2_with (go_at_call 63; refine (iTime_any _ _).mono ?_; rintro e w' ⟨rfl, rfl⟩)
    exact bodyPost_ret (v := .slice none 0 0) (by simp [results, Try.results15, go_sem]) rfl (HP.out _ B0.out)
  | true =>
    cases h2 : slFine s h with
    | false =>
      rw [slides_no2 h2]
      rw [h2] at FI
      go_enter Try.func15, Try.ntmps15
      go_wp2_with (first | (go_at_call 63; refine (iTime_any _ _).mono ?_; rintro e w' ⟨rfl, rfl⟩) | (go_at_call 64; refine (FI.out _).mono ?_; rintro e w1 ⟨rfl, hb⟩; have B1 := Lib.hid (B0.out.trans (hb.mono (by simp))); clear hb))
      exact bodyPost_ret (v := .slice none 0 0) (by simp [results, Try.results15, go_sem]) rfl (HP.out _ B1.out)
    | true =>
      have AT := Lib.hid (fun W => slAt_x t s h W h1 h2)
      have KB := Lib.hid (Blk.new w 77 #[.int .i64 s, .int .i64 h])
      rw [h2] at FI
      go_enter Try.func15, Try.ntmps15
      go_wp2_with (first | (go_at_call 63; refine (iTime_any _ _).mono ?_; rintro e w' ⟨rfl, rfl⟩) | (go_at_call 64; refine (FI.out _).mono ?_; rintro e w1 ⟨rfl, hb⟩; have g0 := (KB.out.below hb).cell 0; have g1 := (KB.out.below hb).cell 1; simp only [List.getElem?_toArray, List.getElem?_cons_zero, List.getElem?_cons_succ] at g0 g1; have B1 := Lib.hid (B0.out.trans (hb.mono (by simp))); clear hb))
      refine (AT.out _).mono ?_
      rintro e w2 ⟨a, c, rfl, ho, hb⟩
      have HZ : Hid (FreshNums 3 .i64 (slidesL t s h) w (.returned (.slice a (slidesL t s h).length c)) w2) := Lib.hid ⟨a, c, rfl, owns_less ho B1.out.size, B1.out.trans (hb.mono B1.out.size)⟩
      clear ho hb
      go_wp2
      exact bodyPost_ret (v := .slice a _ c) (by simp [results, Try.results15, go_sem]) rfl HZ.out
set_option maxHeartbeats 1000000 in
theorem implSlEnd_any (k s h : Int) (w : World) : Calls Try.prog 20 #[.int .i64 k, .int .i64 s, .int .i64 h] w fun e w' => e = .returned (.int .i64 (slideEnd k s h)) ∧ Below w.heap.size w w' := by
  have B0 := Lib.hid ((Below.refl w.heap.size w).alloc (Nat.le_refl _) (.cells #[.int .i64 s, .int .i64 h] 77))
  have FI := Lib.hid (fun W => slOk_x s h W)
  cases h1 : inB k 0 1000000 with
  | false =>
    rw [slideEnd_no1 h1]
    go_enter Try.func20, Try.ntmps20
    go_wp2_with (go_at_call 63; refine (iTime_any _ _).mono ?_; rintro e w' ⟨rfl, rfl⟩)
    go_ret
    exact ⟨rfl, B0.out⟩
  | true =>
    cases h2 : slFine s h with
    | false =>
      rw [slideEnd_no2 h2]
      rw [h2] at FI
      go_enter Try.func20, Try.ntmps20
      go_wp2_with (first | (go_at_call 63; refine (iTime_any _ _).mono ?_; rintro e w' ⟨rfl, rfl⟩) | (go_at_call 64; refine (FI.out _).mono ?_; rintro e w1 ⟨rfl, hb⟩; have B1 := Lib.hid (B0.out.trans (hb.mono (by simp))); clear hb))
      go_ret
      exact ⟨rfl, B1.out⟩
    | true =>
      rw [slideEnd_yes h1 h2]
      rw [h2] at FI
      have b1 := inB_bd h1
      have b2 := slFine_bd h2
      have pb := slide_prod h1 h2
      have pw : IntKind.i64.wrap (k * h) = k * h := IntWalk.i64_in _ (by omega)
      go_enter Try.func20, Try.ntmps20
      go_wp2_with (first | (go_at_call 63; refine (iTime_any _ _).mono ?_; rintro e w' ⟨rfl, rfl⟩) | (go_at_call 64; refine (FI.out _).mono ?_; rintro e w1 ⟨rfl, hb⟩; have B1 := Lib.hid (B0.out.trans (hb.mono (by simp))); clear hb))
      go_ret
      exact ⟨rfl, B1.out⟩
theorem cover_alt {s h : Int} (a : slFine s h = true) : (s + h - 1) / h = if 0 < s % h then s / h + 1 else s / h := by
  have b := slFine_bd a
  have h0 : 0 < h := by omega
  have e := Int.emod_add_mul_ediv s h
  have m0 := Int.emod_nonneg s (b := h) (by omega)
  have m1 := Int.emod_lt_of_pos s h0
  split
  · rename_i hm
    have : s + h - 1 = (s % h - 1) + h * (s / h + 1) := by rw [Int.mul_add]; omega
    rw [this, Int.add_mul_ediv_left _ _ (by omega), Int.ediv_eq_zero_of_lt (by omega) (by omega)]
    omega
  · rename_i hm
    have : s + h - 1 = (h - 1) + h * (s / h) := by omega
    rw [this, Int.add_mul_ediv_left _ _ (by omega), Int.ediv_eq_zero_of_lt (by omega) (by omega)]
    omega
set_option maxHeartbeats 1000000 in
theorem implCover_any (s h : Int) (w : World) : Calls Try.prog 22 #[.int .i64 s, .int .i64 h] w fun e w' => e = .returned (.int .i64 (coverN s h)) ∧ Below w.heap.size w w' := by
  have B0 := Lib.hid ((Below.refl w.heap.size w).alloc (Nat.le_refl _) (.cells #[.int .i64 s, .int .i64 h] 77))
  have FI := Lib.hid (fun W => slOk_x s h W)
  cases h2 : slFine s h with
  | false =>
    rw [coverN_no h2]
    rw [h2] at FI
    go_enter Try.func22, Try.ntmps22
    go_wp2_with (go_at_call 64; refine (FI.out _).mono ?_; rintro e w1 ⟨rfl, hb⟩; have B1 := Lib.hid (B0.out.trans (hb.mono (by simp))); clear hb)
    go_ret
    exact ⟨rfl, B1.out⟩
  | true =>
    rw [coverN_yes h2, cover_alt h2]
    rw [h2] at FI
    have b2 := slFine_bd h2
    have hq : s.tdiv h = s / h := Int.tdiv_eq_ediv_of_nonneg (by omega)
    have hm : s.tmod h = s % h := Int.tmod_eq_emod_of_nonneg (by omega)
    have hs0 : ¬ h = 0 := by omega
    have hq1 : 0 ≤ s / h := Int.ediv_nonneg (by omega) (by omega)
    have hq2 : s / h ≤ s := Int.ediv_le_self _ (by omega)
    have hw : IntKind.i64.wrap (s / h) = s / h := IntWalk.i64_in _ (by omega)
    have hm0 := Int.emod_nonneg s (b := h) (by omega)
    have hm1 := Int.emod_lt_of_pos s (show 0 < h by omega)
    have hwm : IntKind.i64.wrap (s % h) = s % h := IntWalk.i64_in _ (by omega)
    by_cases hp : 0 < s % h
    · rw [if_pos hp]
      go_enter Try.func22, Try.ntmps22
      go_wp2_with (go_at_call 64; refine (FI.out _).mono ?_; rintro e w1 ⟨rfl, hb⟩; have B1 := Lib.hid (B0.out.trans (hb.mono (by simp))); clear hb)
      go_ret
      exact ⟨rfl, B1.out⟩
    · rw [if_neg hp]
      go_enter Try.func22, Try.ntmps22
      go_wp2_with (go_at_call 64; refine (FI.out _).mono ?_; rintro e w1 ⟨rfl, hb⟩; have B1 := Lib.hid (B0.out.trans (hb.mono (by simp))); clear hb)
      go_ret
      exact ⟨rfl, B1.out⟩
end Go.Proofs.Ytchbmnpajnlijaa
