/- Chapter 11, spec's side: SessionOk, ClosedSessions, LongestSession. (made by tools/mksess.py) -/
import Derived.Test.YtchbmnpajnlijaaPlainSess
import Derived.Test.YtchbmnpajnlijaaSessionA
import Derived.Deep.RegionWith
import Derived.Deep.QuietTactic
import Derived.BigQuiet
import Derived.StillTailTactics
import Derived.OwnWalk
import Derived.IntWalk
namespace Go.Proofs.Ytchbmnpajnlijaa
open Go.RowKit

set_option maxHeartbeats 4000000 in
theorem specSesOk_x (u0 u1 u2 u3 u4 : Int) (w : World) : Calls Try.prog 23 #[(.agg #[.int .i64 u0, .int .i64 u1, .int .i64 u2, .int .i64 u3, .int .i64 u4])] w fun e w' => e = .returned (.bool (sesOk ⟨u0, u1, u2, u3, u4⟩)) ∧ Below w.heap.size w w' := by
  have BB := Lib.hid ((Below.refl w.heap.size w).alloc (Nat.le_refl _) (.cells #[.int .i64 u0, .int .i64 u1, .int .i64 u2, .int .i64 u3, .int .i64 u4] 33))
  cases h0 : inB u0 0 65535 with
  | false =>
    rw [show sesOk ⟨u0, u1, u2, u3, u4⟩ = false by simp [sesOk, h0]]
    go_enter Try.func23, Try.ntmps23
    go_wp2_with (go_at_call 59; refine (specIn_any _ _ _ _).mono ?_; rintro e w' ⟨rfl, rfl⟩)
    go_ret
    exact ⟨rfl, BB.out⟩
  | true =>
    cases h1 : inB u2 0 1000000 with
    | false =>
      rw [show sesOk ⟨u0, u1, u2, u3, u4⟩ = false by simp [sesOk, h1]]
      go_enter Try.func23, Try.ntmps23
      go_wp2_with (go_at_call 59; refine (specIn_any _ _ _ _).mono ?_; rintro e w' ⟨rfl, rfl⟩)
      go_ret
      exact ⟨rfl, BB.out⟩
    | true =>
      cases h2 : inB u1 0 u2 with
      | false =>
        rw [show sesOk ⟨u0, u1, u2, u3, u4⟩ = false by simp [sesOk, h2]]
        go_enter Try.func23, Try.ntmps23
        go_wp2_with (go_at_call 59; refine (specIn_any _ _ _ _).mono ?_; rintro e w' ⟨rfl, rfl⟩)
        go_ret
        exact ⟨rfl, BB.out⟩
      | true =>
        cases h3 : inB u3 1 1000000000 with
        | false =>
          rw [show sesOk ⟨u0, u1, u2, u3, u4⟩ = false by simp [sesOk, h3]]
          go_enter Try.func23, Try.ntmps23
          go_wp2_with (go_at_call 59; refine (specIn_any _ _ _ _).mono ?_; rintro e w' ⟨rfl, rfl⟩)
          go_ret
          exact ⟨rfl, BB.out⟩
        | true =>
          cases h4 : inB u4 (-1000000000) 1000000000 with
          | false =>
            rw [show sesOk ⟨u0, u1, u2, u3, u4⟩ = false by simp [sesOk, h4]]
            go_enter Try.func23, Try.ntmps23
            go_wp2_with (go_at_call 59; refine (specIn_any _ _ _ _).mono ?_; rintro e w' ⟨rfl, rfl⟩)
            go_ret
            exact ⟨rfl, BB.out⟩
          | true =>
            rw [show sesOk ⟨u0, u1, u2, u3, u4⟩ = true by simp [sesOk, h0, h1, h2, h3, h4]]
            go_enter Try.func23, Try.ntmps23
            go_wp2_with (go_at_call 59; refine (specIn_any _ _ _ _).mono ?_; rintro e w' ⟨rfl, rfl⟩)
            go_ret
            exact ⟨rfl, BB.out⟩
set_option maxHeartbeats 4000000 in
set_option maxRecDepth 100000 in
theorem specLong_any (a : Option Addr) (n c : Nat) (l : List Ss) (hi : Nat) (w : World) (hr : Sss w hi a c l) (hn : n = l.length) (hB : hi ≤ w.heap.size) :
    Calls Try.prog 27 #[.slice a n c] w fun e w' => e = .returned (.int .i64 (longZ l)) ∧ Below w.heap.size w w' := by
  subst hn
  have m1 := hr.cap
  have m2 := hr.big
  have HR := Lib.hid hr
  clear hr
  by_cases h1 : l.length ≤ 200
  · have hd' : ¬ (200 : Int) < (l.length : Int) := by omega
    have HNO := Lib.hid (fun (k : Nat) hk h => longZ_no2 (l := l) (k := k) hk h)
    have HYES := Lib.hid (fun h => longZ_yes (l := l) h1 h)
    generalize longZ l = R at HNO HYES ⊢
    go_enter Try.func27, Try.ntmps27
    go_wp2
    clear hd'
    go_loopw [3, 4] (fun b i wr => ∃ k : Nat, k ≤ l.length ∧ i = .int .i64 (k : Int) ∧ b = .int .i64 (lgTo l k) ∧ oksZ l k ∧ Below w.heap.size w wr) (fun _ i _ => l.length - (intOf i).toNat)
    case atStart => exact ⟨0, Nat.zero_le _, rfl, rfl, fun i hi => by omega, Below.refl _ _⟩
    case round =>
      obtain ⟨k, hk, rfl, rfl, hok, hb⟩ := hrel
      have HOK := Lib.hid hok
      have HB := Lib.hid hb
      have hbd := lgTo_bd l k
      clear hok hb
      by_cases hlt : k < l.length
      · obtain ⟨b1, off, rfl, hbh, hcell⟩ := Sss.six (HR.out.below (HB.out.mono hB)) (by omega)
        have HC0 := Lib.hid hcell
        have hlt' : (k : Int) < (l.length : Int) := by omega
        have hnn : 0 ≤ (k : Int) := by omega
        obtain ⟨p0, p1, p2, p3, p4⟩ := hcell k hlt
        have SO := Lib.hid (fun W => specSesOk_x (zel l k).ky (zel l k).fr (zel l k).tt (zel l k).ct (zel l k).sm W)
        have eS : (⟨(zel l k).ky, (zel l k).fr, (zel l k).tt, (zel l k).ct, (zel l k).sm⟩ : Ss) = zel l k := rfl
        rw [eS] at SO
        clear hcell eS
        cases hs : sesOk (zel l k) with
        | false =>
          have HX := Lib.hid (HNO.out k hlt hs)
          rw [hs] at SO
          clear HNO HYES hs hbd
          go_wp2_with fail
          refine (SO.out _).mono ?_
          rintro e w3 ⟨rfl, hb⟩
          have HB3 := Lib.hid (HB.out.trans (hb.mono HB.out.size))
          clear hb
          go_wp2
          go_ret
          exact ⟨by rw [HX.out]; rfl, HB3.out⟩
        | true =>
          rw [hs] at SO
          have HOK1 : Hid (oksZ l (k + 1)) := Lib.hid (fun i hi => by
            rcases Nat.lt_or_ge i k with h | h
            · exact HOK.out i h
            · obtain rfl : i = k := by omega
              exact hs)
          have bk := sesOk_bd hs
          go_wp2_with fail
          refine (SO.out _).mono ?_
          rintro e w3 ⟨rfl, hb⟩
          have HB3 := Lib.hid (HB.out.trans (hb.mono HB.out.size))
          obtain ⟨b1', off', he, hbh', hcell⟩ := Sss.six (HR.out.below (HB3.out.mono hB)) (by omega)
          injection he with he
          injection he with e1 e2
          subst e1 e2
          clear hb p0 p1 p2 p3 p4 HC0
          by_cases hneg : lgTo l k < 0
          · have HL : Hid (lgTo l (k + 1) = (k : Int)) := Lib.hid (by unfold lgTo; rw [if_pos (.inl hneg)])
            have hng : decide (lgTo l k < 0) = true := decide_eq_true hneg
            generalize lgTo l k = B at *
            clear hcell bk hs
            go_wp2_with fail
            go_quiet (fail)
            go_wp2
            go_roundw
            case rel => exact ⟨k + 1, by omega, by go_num, by rw [HL.out], HOK1.out, below_drewN HB3.out nq⟩
            case measure => simp [intOf]; omega
          · obtain ⟨q, hq⟩ : ∃ q : Nat, lgTo l k = (q : Int) := ⟨(lgTo l k).toNat, by omega⟩
            have hqk : q < k := by omega
            have bq := sesOk_bd (HOK.out q hqk)
            obtain ⟨c0, c1, c2, c3, c4⟩ := hcell k hlt
            obtain ⟨d0, d1, d2, d3, d4⟩ := hcell q (by omega)
            have hlq : (q : Int) < (l.length : Int) := by omega
            have hq0 : 0 ≤ (q : Int) := by omega
            have hng : decide ((q : Int) < 0) = false := by simp
            have HL : Hid (lgTo l (k + 1) = if (zel l q).tt - (zel l q).fr < (zel l k).tt - (zel l k).fr then (k : Int) else (q : Int)) := Lib.hid (by
              rw [show lgTo l (k + 1) = if lgTo l k < 0 ∨ (zel l (lgTo l k).toNat).tt - (zel l (lgTo l k).toNat).fr < (zel l k).tt - (zel l k).fr then (k : Int) else lgTo l k from rfl, hq, Int.toNat_natCast]
              have e : ¬ ((q : Int) < 0) := by omega
              simp only [e, false_or])
            obtain ⟨NX, hNX⟩ : ∃ z, z = lgTo l (k + 1) := ⟨_, rfl⟩
            rw [← hNX] at HL
            have HNX := Lib.hid hNX
            clear hNX
            rw [hq] at hneg ⊢
            clear hcell hs hbd hq hneg c0 c3 c4 d0 d3 d4
            generalize zel l q = T at bq d1 d2 HL
            generalize zel l k = S at bk c1 c2 HL
            obtain ⟨u0, u1, u2, u3, u4⟩ := S
            obtain ⟨v0, v1, v2, v3, v4⟩ := T
            simp only at bq bk c1 c2 d1 d2 HL
            by_cases hgt : v2 - v1 < u2 - u1
            · rw [if_pos hgt] at HL
              go_wp2_with fail
              go_quiet (fail)
              go_wp2
              go_roundw
              case rel => exact ⟨k + 1, by omega, by go_num, by rw [← HNX.out, HL.out], HOK1.out, below_drewN HB3.out nq⟩
              case measure => simp [intOf]; omega
            · rw [if_neg hgt] at HL
              go_wp2_with fail
              go_quiet (fail)
              go_wp2
              go_roundw
              case rel => exact ⟨k + 1, by omega, by go_num, by rw [← HNX.out, HL.out], HOK1.out, below_drewN HB3.out nq⟩
              case measure => simp [intOf]; omega
      · obtain rfl : k = l.length := by omega
        have HX := Lib.hid (HYES.out HOK.out)
        generalize lgTo l l.length = B at *
        clear HNO HYES hbd
        go_wp2
        go_ret
        exact ⟨by rw [HX.out]; rfl, HB.out⟩
  · rw [longZ_no1 h1]
    have hd' : (200 : Int) < (l.length : Int) := by omega
    go_enter Try.func27, Try.ntmps27
    go_wp2
    go_ret
    exact ⟨rfl, Below.refl _ _⟩
end Go.Proofs.Ytchbmnpajnlijaa
