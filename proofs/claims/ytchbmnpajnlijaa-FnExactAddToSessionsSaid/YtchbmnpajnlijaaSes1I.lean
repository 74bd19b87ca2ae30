/- Chapter 11, impl's side: SessionOk, Session.length, LongestSession. (made by tools/mksessi.py) -/
import Derived.Test.YtchbmnpajnlijaaPlainSess
import Derived.Test.YtchbmnpajnlijaaSessionA
import Derived.Test.YtchbmnpajnlijaaWin1
import Derived.Deep.RegionWith
import Derived.Deep.QuietTactic
import Derived.BigQuiet
import Derived.StillTailTactics
import Derived.OwnWalk
import Derived.IntWalk
import Derived.Deep.RegionHeld3
namespace Go.Proofs.Ytchbmnpajnlijaa
open Go.RowKit
theorem sesOk_alt (S : Ss) : sesOk S = (inB S.ky 0 65535 && inB S.fr 0 1000000 && inB S.tt 0 1000000 && decide (S.fr ≤ S.tt) && inB S.ct 1 1000000000 && inB S.sm (-1000000000) 1000000000) := by
  unfold sesOk inB
  congr 2
  rw [Bool.eq_iff_iff]
  simp only [Bool.and_eq_true, decide_eq_true_eq]
  omega
set_option maxHeartbeats 4000000 in
theorem implSesOk_x (u0 u1 u2 u3 u4 : Int) (w : World) : Calls Try.prog 25 #[(.agg #[.int .i64 u0, .int .i64 u1, .int .i64 u2, .int .i64 u3, .int .i64 u4])] w fun e w' => e = .returned (.bool (sesOk ⟨u0, u1, u2, u3, u4⟩)) ∧ Below w.heap.size w w' := by
  have BB := Lib.hid ((Below.refl w.heap.size w).alloc (Nat.le_refl _) (.cells #[.int .i64 u0, .int .i64 u1, .int .i64 u2, .int .i64 u3, .int .i64 u4] 33))
  rw [sesOk_alt]
  simp only
  cases h0 : inB u0 0 65535 with
  | false =>
    go_enter Try.func25, Try.ntmps25
    go_wp2_with (first | (go_at_call 66; refine (iKey_any _ _).mono ?_; rintro e w' ⟨rfl, rfl⟩) | (go_at_call 63; refine (iTime_any _ _).mono ?_; rintro e w' ⟨rfl, rfl⟩) | (go_at_call 67; refine (iw_any _ _ _ _).mono ?_; rintro e w' ⟨rfl, rfl⟩) | (go_at_call 68; refine (iSum_any _ _).mono ?_; rintro e w' ⟨rfl, rfl⟩))
    go_ret
    exact ⟨by simp [go_sem], BB.out⟩
  | true =>
    cases h1 : inB u1 0 1000000 with
    | false =>
      go_enter Try.func25, Try.ntmps25
      go_wp2_with (first | (go_at_call 66; refine (iKey_any _ _).mono ?_; rintro e w' ⟨rfl, rfl⟩) | (go_at_call 63; refine (iTime_any _ _).mono ?_; rintro e w' ⟨rfl, rfl⟩) | (go_at_call 67; refine (iw_any _ _ _ _).mono ?_; rintro e w' ⟨rfl, rfl⟩) | (go_at_call 68; refine (iSum_any _ _).mono ?_; rintro e w' ⟨rfl, rfl⟩))
      go_ret
      exact ⟨by simp [go_sem], BB.out⟩
    | true =>
      cases h2 : inB u2 0 1000000 with
      | false =>
        go_enter Try.func25, Try.ntmps25
        go_wp2_with (first | (go_at_call 66; refine (iKey_any _ _).mono ?_; rintro e w' ⟨rfl, rfl⟩) | (go_at_call 63; refine (iTime_any _ _).mono ?_; rintro e w' ⟨rfl, rfl⟩) | (go_at_call 67; refine (iw_any _ _ _ _).mono ?_; rintro e w' ⟨rfl, rfl⟩) | (go_at_call 68; refine (iSum_any _ _).mono ?_; rintro e w' ⟨rfl, rfl⟩))
        go_ret
        exact ⟨by simp [go_sem], BB.out⟩
      | true =>
        cases h3 : decide (u1 ≤ u2) with
        | false =>
          have h3p := of_decide_eq_false h3
          clear h3
          go_enter Try.func25, Try.ntmps25
          go_wp2_with (first | (go_at_call 66; refine (iKey_any _ _).mono ?_; rintro e w' ⟨rfl, rfl⟩) | (go_at_call 63; refine (iTime_any _ _).mono ?_; rintro e w' ⟨rfl, rfl⟩) | (go_at_call 67; refine (iw_any _ _ _ _).mono ?_; rintro e w' ⟨rfl, rfl⟩) | (go_at_call 68; refine (iSum_any _ _).mono ?_; rintro e w' ⟨rfl, rfl⟩))
          go_ret
          exact ⟨by simp [go_sem], BB.out⟩
        | true =>
          have h3p := of_decide_eq_true h3
          clear h3
          cases h4 : inB u3 1 1000000000 with
          | false =>
            go_enter Try.func25, Try.ntmps25
            go_wp2_with (first | (go_at_call 66; refine (iKey_any _ _).mono ?_; rintro e w' ⟨rfl, rfl⟩) | (go_at_call 63; refine (iTime_any _ _).mono ?_; rintro e w' ⟨rfl, rfl⟩) | (go_at_call 67; refine (iw_any _ _ _ _).mono ?_; rintro e w' ⟨rfl, rfl⟩) | (go_at_call 68; refine (iSum_any _ _).mono ?_; rintro e w' ⟨rfl, rfl⟩))
            go_ret
            exact ⟨by simp [go_sem], BB.out⟩
          | true =>
            cases h5 : inB u4 (-1000000000) 1000000000 with
            | false =>
              go_enter Try.func25, Try.ntmps25
              go_wp2_with (first | (go_at_call 66; refine (iKey_any _ _).mono ?_; rintro e w' ⟨rfl, rfl⟩) | (go_at_call 63; refine (iTime_any _ _).mono ?_; rintro e w' ⟨rfl, rfl⟩) | (go_at_call 67; refine (iw_any _ _ _ _).mono ?_; rintro e w' ⟨rfl, rfl⟩) | (go_at_call 68; refine (iSum_any _ _).mono ?_; rintro e w' ⟨rfl, rfl⟩))
              go_ret
              exact ⟨by simp [go_sem], BB.out⟩
            | true =>
              skip
              go_enter Try.func25, Try.ntmps25
              go_wp2_with (first | (go_at_call 66; refine (iKey_any _ _).mono ?_; rintro e w' ⟨rfl, rfl⟩) | (go_at_call 63; refine (iTime_any _ _).mono ?_; rintro e w' ⟨rfl, rfl⟩) | (go_at_call 67; refine (iw_any _ _ _ _).mono ?_; rintro e w' ⟨rfl, rfl⟩) | (go_at_call 68; refine (iSum_any _ _).mono ?_; rintro e w' ⟨rfl, rfl⟩))
              go_ret
              exact ⟨by simp [go_sem], BB.out⟩
theorem sesLen_x (u0 u1 u2 u3 u4 : Int) (w : World) (h1 : 0 ≤ u1 ∧ u1 ≤ 1000000) (h2 : 0 ≤ u2 ∧ u2 ≤ 1000000) : Calls Try.prog 69 #[(.agg #[.int .i64 u0, .int .i64 u1, .int .i64 u2, .int .i64 u3, .int .i64 u4])] w fun e w' => e = .returned (.int .i64 (u2 - u1)) ∧ Below w.heap.size w w' := by
  have BB := Lib.hid ((Below.refl w.heap.size w).alloc (Nat.le_refl _) (.cells #[.int .i64 u0, .int .i64 u1, .int .i64 u2, .int .i64 u3, .int .i64 u4] 33))
  go_enter Try.func69, Try.ntmps69
  go_wp2
  go_ret
  exact ⟨rfl, BB.out⟩
set_option maxHeartbeats 4000000 in
set_option maxRecDepth 100000 in
theorem implLong_any (a : Option Addr) (n c : Nat) (l : List Ss) (hi : Nat) (w : World) (hr : Sss w hi a c l) (hn : n = l.length) (hB : hi ≤ w.heap.size) :
    Calls Try.prog 29 #[.slice a n c] w fun e w' => e = .returned (.int .i64 (longZ l)) ∧ Below w.heap.size w w' := by
  subst hn
  have m1 := hr.cap
  have m2 := hr.big
  have HR := Lib.hid hr
  clear hr
  by_cases h1 : l.length ≤ 200
  · have hd' : ¬ (200 : Int) < (l.length : Int) := by omega
    have HNO := Lib.hid (fun (k : Nat) hk h => longZ_no2 (l := l) (k := k) hk h)
    have HYES := Lib.hid (fun h => longZ_yes (l := l) h1 h)
    generalize longZ l = R at HNO HYES ⊢
    go_enter Try.func29, Try.ntmps29
    go_wp2
    clear hd'
    go_loopw [3, 11] (fun b i wr => ∃ k : Nat, k ≤ l.length ∧ i = .int .i64 (k : Int) ∧ b = .int .i64 (lgTo l k) ∧ oksZ l k ∧ Below w.heap.size w wr) (fun _ i _ => l.length - (intOf i).toNat)
    case atStart => exact ⟨0, Nat.zero_le _, rfl, rfl, fun i hi => by omega, Below.refl _ _⟩
    case round =>
      obtain ⟨k, hk, rfl, rfl, hok, hb⟩ := hrel
      have HOK := Lib.hid hok
      have HB := Lib.hid hb
      have hbd := lgTo_bd l k
      have hws := hb.size
      clear hok hb
      by_cases hlt : k < l.length
      · obtain ⟨b1, off, rfl, hbh, hcell⟩ := Sss.six (HR.out.below (HB.out.mono hB)) (by omega)
        have hlt' : (k : Int) < (l.length : Int) := by omega
        have hnn : 0 ≤ (k : Int) := by omega
        obtain ⟨p0, p1, p2, p3, p4⟩ := hcell k hlt
        have SO := Lib.hid (fun W => implSesOk_x (zel l k).ky (zel l k).fr (zel l k).tt (zel l k).ct (zel l k).sm W)
        have eS : (⟨(zel l k).ky, (zel l k).fr, (zel l k).tt, (zel l k).ct, (zel l k).sm⟩ : Ss) = zel l k := rfl
        rw [eS] at SO
        have KS := Lib.hid (Blk.new wr 33 #[.int .i64 (zel l k).ky, .int .i64 (zel l k).fr, .int .i64 (zel l k).tt, .int .i64 (zel l k).ct, .int .i64 (zel l k).sm])
        have HB := Lib.hid (HB.out.alloc hws (.cells #[.int .i64 (zel l k).ky, .int .i64 (zel l k).fr, .int .i64 (zel l k).tt, .int .i64 (zel l k).ct, .int .i64 (zel l k).sm] 33))
        clear hcell eS
        cases hs : sesOk (zel l k) with
        | false =>
          have HX := Lib.hid (HNO.out k hlt hs)
          rw [hs] at SO
          clear HNO HYES hs hbd
          go_wp2_with fail
          refine (SO.out _).mono ?_
          rintro e w3 ⟨rfl, hb⟩
          have HB3 := Lib.hid (HB.out.trans (hb.mono HB.out.size))
          clear hb
          go_wp2
          go_ret
          exact ⟨by rw [HX.out]; rfl, HB3.out⟩
        | true =>
          rw [hs] at SO
          have HOK1 : Hid (oksZ l (k + 1)) := Lib.hid (fun i hi => by
            rcases Nat.lt_or_ge i k with h | h
            · exact HOK.out i h
            · obtain rfl : i = k := by omega
              exact hs)
          have bk := sesOk_bd hs
          go_wp2_with fail
          refine (SO.out _).mono ?_
          rintro e w3 ⟨rfl, hb⟩
          have HB3 := Lib.hid (HB.out.trans (hb.mono HB.out.size))
          have hsz3 := HB3.out.size
          have KS := Lib.hid (KS.out.below hb)
          obtain ⟨b1', off', he, hbh', hcell⟩ := Sss.six (HR.out.below (HB3.out.mono hB)) (by omega)
          injection he with he
          injection he with e1 e2
          subst e1 e2
          clear hb p0 p1 p2 p3 p4
          by_cases hneg : lgTo l k < 0
          · have HL : Hid (lgTo l (k + 1) = (k : Int)) := Lib.hid (by unfold lgTo; rw [if_pos (.inl hneg)])
            have hng : decide (lgTo l k < 0) = true := decide_eq_true hneg
            generalize lgTo l k = B at *
            clear hcell bk hs
            go_wp2_with fail
            go_quiet (fail)
            go_wp2
            go_roundw
            case rel => exact ⟨k + 1, by omega, by go_num, by rw [HL.out], HOK1.out, below_drewN HB3.out nq⟩
            case measure => simp [intOf]; omega
          · obtain ⟨q, hq⟩ : ∃ q : Nat, lgTo l k = (q : Int) := ⟨(lgTo l k).toNat, by omega⟩
            have hqk : q < k := by omega
            have bq := sesOk_bd (HOK.out q hqk)
            obtain ⟨d0, d1, d2, d3, d4⟩ := hcell q (by omega)
            have hlq : (q : Int) < (l.length : Int) := by omega
            have hq0 : 0 ≤ (q : Int) := by omega
            have hng : decide ((q : Int) < 0) = false := by simp
            have HL : Hid (lgTo l (k + 1) = if (zel l q).tt - (zel l q).fr < (zel l k).tt - (zel l k).fr then (k : Int) else (q : Int)) := Lib.hid (by
              rw [show lgTo l (k + 1) = if lgTo l k < 0 ∨ (zel l (lgTo l k).toNat).tt - (zel l (lgTo l k).toNat).fr < (zel l k).tt - (zel l k).fr then (k : Int) else lgTo l k from rfl, hq, Int.toNat_natCast]
              have e : ¬ ((q : Int) < 0) := by omega
              simp only [e, false_or])
            obtain ⟨NX, hNX⟩ : ∃ z, z = lgTo l (k + 1) := ⟨_, rfl⟩
            rw [← hNX] at HL
            have HNX := Lib.hid hNX
            clear hNX
            rw [hq] at hneg ⊢
            clear hcell hs hbd hq hneg
            generalize zel l q = T at bq d0 d1 d2 d3 d4 HL
            generalize zel l k = X at *
            obtain ⟨u0, u1, u2, u3, u4⟩ := X
            obtain ⟨v0, v1, v2, v3, v4⟩ := T
            simp only at *
            have hb1 : b1 < w3.heap.size := by omega
            have BB := Lib.hid HB3.out.drew
            have KD := Lib.hid KS.out.drew
            have y0 : w3.drew.cell? ⟨wr.heap.size, 0, none⟩ = some (.int .i64 u0) := KD.out.cell 0
            have y1 : w3.drew.cell? ⟨wr.heap.size, 1, none⟩ = some (.int .i64 u1) := KD.out.cell 1
            have y2 : w3.drew.cell? ⟨wr.heap.size, 2, none⟩ = some (.int .i64 u2) := KD.out.cell 2
            have y3 : w3.drew.cell? ⟨wr.heap.size, 3, none⟩ = some (.int .i64 u3) := KD.out.cell 3
            have y4 : w3.drew.cell? ⟨wr.heap.size, 4, none⟩ = some (.int .i64 u4) := KD.out.cell 4
            have YL : Hid (∀ W : World, Below w3.heap.size w3 W → W.cell? ⟨b1, off + q * 5, none⟩ = some (.int .i64 v0) ∧ W.cell? ⟨b1, off + q * 5 + 1, none⟩ = some (.int .i64 v1) ∧ W.cell? ⟨b1, off + q * 5 + 2, none⟩ = some (.int .i64 v2) ∧ W.cell? ⟨b1, off + q * 5 + 3, none⟩ = some (.int .i64 v3) ∧ W.cell? ⟨b1, off + q * 5 + 4, none⟩ = some (.int .i64 v4)) := Lib.hid (fun W hW => by
              have g1 : ∀ z, W.cell? ⟨b1, z, none⟩ = w3.cell? ⟨b1, z, none⟩ := fun z => hW.cell (p := ⟨b1, z, none⟩) hb1
              simp only [g1]
              exact ⟨d0, d1, d2, d3, d4⟩)
            clear d0 d1 d2 d3 d4
            obtain ⟨z0, z1, z2, z3, z4⟩ := YL.out w3.drew (Below.refl _ _).drew
            have B3 := Lib.hid ((Below.refl w3.heap.size w3).drew)
            go_wp2_with fail
            go_region_held3 (fun W => W.cell? ⟨wr.heap.size, 0, none⟩ = some (.int .i64 u0) ∧ W.cell? ⟨wr.heap.size, 1, none⟩ = some (.int .i64 u1) ∧ W.cell? ⟨wr.heap.size, 2, none⟩ = some (.int .i64 u2) ∧ W.cell? ⟨wr.heap.size, 3, none⟩ = some (.int .i64 u3) ∧ W.cell? ⟨wr.heap.size, 4, none⟩ = some (.int .i64 u4) ∧ W.cell? ⟨b1, off + q * 5, none⟩ = some (.int .i64 v0) ∧ W.cell? ⟨b1, off + q * 5 + 1, none⟩ = some (.int .i64 v1) ∧ W.cell? ⟨b1, off + q * 5 + 2, none⟩ = some (.int .i64 v2) ∧ W.cell? ⟨b1, off + q * 5 + 3, none⟩ = some (.int .i64 v3) ∧ W.cell? ⟨b1, off + q * 5 + 4, none⟩ = some (.int .i64 v4))
              (exact ⟨y0, y1, y2, y3, y4, z0, z1, z2, z3, z4⟩)
              ((go_at_call 69; refine (sesLen_x _ _ _ _ _ _ (by omega) (by omega)).mono ?_; rintro e w1 ⟨rfl, hb⟩; have KD := Lib.hid (KD.out.below hb); have BB := Lib.hid (BB.out.trans (hb.mono BB.out.size)); have B3 := Lib.hid (B3.out.trans (hb.mono B3.out.size)); obtain ⟨z0, z1, z2, z3, z4⟩ := YL.out w1 B3.out; clear hb y0 y1 y2 y3 y4; have y0 : w1.cell? ⟨wr.heap.size, 0, none⟩ = some (.int .i64 u0) := KD.out.cell 0; have y1 : w1.cell? ⟨wr.heap.size, 1, none⟩ = some (.int .i64 u1) := KD.out.cell 1; have y2 : w1.cell? ⟨wr.heap.size, 2, none⟩ = some (.int .i64 u2) := KD.out.cell 2; have y3 : w1.cell? ⟨wr.heap.size, 3, none⟩ = some (.int .i64 u3) := KD.out.cell 3; have y4 : w1.cell? ⟨wr.heap.size, 4, none⟩ = some (.int .i64 u4) := KD.out.cell 4))
            all_goals
              clear y0 y1 y2 y3 y4 z0 z1 z2 z3 z4 YL KD
              by_cases hgt : v2 - v1 < u2 - u1
              · rw [if_pos hgt] at HL
                go_wp2
                go_roundw
                case rel => exact ⟨k + 1, by omega, by go_num, by rw [← HNX.out, HL.out], HOK1.out, BB.out⟩
                case measure => simp [intOf]; omega
              · rw [if_neg hgt] at HL
                go_wp2
                go_roundw
                case rel => exact ⟨k + 1, by omega, by go_num, by rw [← HNX.out, HL.out], HOK1.out, BB.out⟩
                case measure => simp [intOf]; omega
      · obtain rfl : k = l.length := by omega
        have HX := Lib.hid (HYES.out HOK.out)
        generalize lgTo l l.length = B at *
        clear HNO HYES hbd
        go_wp2
        go_ret
        exact ⟨by rw [HX.out]; rfl, HB.out⟩
  · rw [longZ_no1 h1]
    have hd' : (200 : Int) < (l.length : Int) := by omega
    go_enter Try.func29, Try.ntmps29
    go_wp2
    go_ret
    exact ⟨rfl, Below.refl _ _⟩
end Go.Proofs.Ytchbmnpajnlijaa
