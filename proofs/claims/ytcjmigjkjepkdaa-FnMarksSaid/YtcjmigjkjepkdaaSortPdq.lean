/- The library's sort over lags: pdqsortOrdered. -/
import Derived.Test.YtcjmigjkjepkdaaSortCut
import Derived.Test.YtcjmigjkjepkdaaSortNext
namespace Go.Proofs.Ytcjmigjkjepkdaa
open Go.RowKit

theorem hint_two (h : Sort.Hint) : (hintN h = 2) ↔ h = .decreasing := by cases h <;> simp [hintN]
theorem hint_one (h : Sort.Hint) : (hintN h = 1) ↔ h = .increasing := by cases h <;> simp [hintN]
theorem an_eighth {x y m n : Nat} (h1 : n ≤ m) (h2 : x ≤ y) : decide (((y : Int) - (x : Int)).tdiv 8 ≤ (m : Int) - (n : Int)) = decide (m - n ≥ (y - x) / 8) := by
  rw [Int.tdiv_eq_ediv_of_nonneg (by omega)]
  exact decide_eq_decide.2 ⟨fun h => by omega, fun h => by omega⟩
theorem an_eighth2 {x y m n : Nat} (h1 : n ≤ m) (h2 : x ≤ y) : decide (((y : Int) - (x : Int)) / 8 ≤ (m : Int) - (n : Int)) = decide (m - n ≥ (y - x) / 8) :=
  decide_eq_decide.2 ⟨fun h => by omega, fun h => by omega⟩
set_option maxHeartbeats 8000000 in
set_option maxRecDepth 1000000 in
theorem pdq_any {L : Nat → Nat} {lt : Nat → Nat → Bool} (hL : LessOk L lt) (swo : Sort.SWO lt) : ∀ (N g off cap a b lim : Nat) (d : Array Nat) (w : World), b - a < N → Sort.Holds (fV L) w g off d → g < w.heap.size → a ≤ b → b ≤ d.size → d.size ≤ 1048576 → lim ≤ 1048576 → Sort.Below lt a b d →
    Calls Try.prog 63 #[.slice (some ⟨g, off, none⟩) d.size cap, .int .i64 a, .int .i64 b, .int .i64 lim] w fun e w' => e = .returned (.tuple #[]) ∧ SG L w g off d (Sort.pdq lt d a b lim true true) w' := by
  intro N
  induction N with
  | zero => intro _ _ _ _ _ _ _ _ h; exact absurd h (Nat.not_lt_zero _)
  | succ N ih =>
    intro g off cap a b lim d w hN hH hg hab hb hsz hlm hB0
    have HLS : Hid (∀ (a b : Nat) (w : World), Calls Try.prog 75 #[.float .f64 (L a), .float .f64 (L b)] w fun e w' => e = .returned (.bool (lt a b)) ∧ w' = w) := hL
    have S0 := Lib.hid (SG.start hH hg)
    have B0 := Lib.hid hB0
    have HIN : Hid (∀ (dk : Array Nat) (W : World) (x y : Nat), SG L w g off d dk W → x ≤ y → y ≤ d.size →  Calls Try.prog 69 #[.slice (some ⟨g, off, none⟩) d.size cap, .int .i64 x, .int .i64 y] W fun e w' => e = .returned (.tuple #[]) ∧ SG L w g off d (Sort.insertionSort lt dk x y) w') := Lib.hid (fun dk W x y h q0 q1 => by
      have h8 := h.size
      have h9 := insSort_any hL g off cap x y dk W h.holds q0 (by omega) (by omega)
      rw [h8] at h9
      exact h9.mono fun e w' k => ⟨k.1, h.step k.2⟩)
    have HHP : Hid (∀ (dk : Array Nat) (W : World) (x y : Nat), SG L w g off d dk W → x ≤ y → y ≤ d.size →  Calls Try.prog 70 #[.slice (some ⟨g, off, none⟩) d.size cap, .int .i64 x, .int .i64 y] W fun e w' => e = .returned (.tuple #[]) ∧ SG L w g off d (Sort.heapSort lt dk x y) w') := Lib.hid (fun dk W x y h q0 q1 => by
      have h8 := h.size
      have h9 := heap_any hL g off cap x y dk W h.holds q0 (by omega) (by omega)
      rw [h8] at h9
      exact h9.mono fun e w' k => ⟨k.1, h.step k.2⟩)
    have HBR : Hid (∀ (dk : Array Nat) (W : World) (x y : Nat), SG L w g off d dk W → x ≤ y → y ≤ d.size →  Calls Try.prog 71 #[.slice (some ⟨g, off, none⟩) d.size cap, .int .i64 x, .int .i64 y] W fun e w' => e = .returned (.tuple #[]) ∧ SG L w g off d (Sort.breakPatterns dk x y) w') := Lib.hid (fun dk W x y h q0 q1 => by
      have h8 := h.size
      have h9 := break_any g off cap x y dk W h.holds h.lt q0 (by omega) (by omega)
      rw [h8] at h9
      exact h9.mono fun e w' k => ⟨k.1, h.stepG k.2⟩)
    have HPV : Hid (∀ (dk : Array Nat) (W : World) (x y : Nat), SG L w g off d dk W → x < y → y ≤ d.size →  Calls Try.prog 72 #[.slice (some ⟨g, off, none⟩) d.size cap, .int .i64 x, .int .i64 y] W fun e w' => e = .returned (.tuple #[.int .i64 (Sort.choosePivot lt dk x y).1, .int .i64 (hintN (Sort.choosePivot lt dk x y).2)]) ∧ SG L w g off d dk w') := Lib.hid (fun dk W x y h q0 q1 => by
      have h8 := h.size
      have h9 := pivot_any hL g off cap x y dk W h.holds h.lt q0 (by omega) (by omega)
      rw [h8] at h9
      exact h9.mono fun e w' k => ⟨k.1, h.stepG k.2⟩)
    have HRV : Hid (∀ (dk : Array Nat) (W : World) (x y : Nat), SG L w g off d dk W → x < y → y ≤ d.size →  Calls Try.prog 73 #[.slice (some ⟨g, off, none⟩) d.size cap, .int .i64 x, .int .i64 y] W fun e w' => e = .returned (.tuple #[]) ∧ SG L w g off d (Sort.reverseRange dk x y) w') := Lib.hid (fun dk W x y h q0 q1 => by
      have h8 := h.size
      have h9 := rev_any g off cap x y dk W h.holds q0 (by omega) (by omega)
      rw [h8] at h9
      exact h9.mono fun e w' k => ⟨k.1, h.step k.2⟩)
    have HPI : Hid (∀ (dk : Array Nat) (W : World) (x y : Nat), SG L w g off d dk W → x < y → y ≤ d.size →  Calls Try.prog 74 #[.slice (some ⟨g, off, none⟩) d.size cap, .int .i64 x, .int .i64 y] W fun e w' => e = .returned (.bool (Sort.partialInsertionSort lt dk x y).2) ∧ SG L w g off d (Sort.partialInsertionSort lt dk x y).1 w') := Lib.hid (fun dk W x y h q0 q1 => by
      have h8 := h.size
      have h9 := partIns_any hL g off cap x y dk W h.holds q0 (by omega) (by omega)
      rw [h8] at h9
      exact h9.mono fun e w' k => ⟨k.1, h.step k.2⟩)
    have HPE : Hid (∀ (dk : Array Nat) (W : World) (x y z : Nat), SG L w g off d dk W → x ≤ z → z < y → y ≤ d.size →  Calls Try.prog 76 #[.slice (some ⟨g, off, none⟩) d.size cap, .int .i64 x, .int .i64 y, .int .i64 z] W fun e w' => e = .returned (.int .i64 (Sort.partitionEqual lt dk x y z).1) ∧ SG L w g off d (Sort.partitionEqual lt dk x y z).2 w') := Lib.hid (fun dk W x y z h q0 q1 q2 => by
      have h8 := h.size
      have h9 := partEq_any hL g off cap x y z dk W h.holds q0 q1 (by omega) (by omega)
      rw [h8] at h9
      exact h9.mono fun e w' k => ⟨k.1, h.step k.2⟩)
    have HPT : Hid (∀ (dk : Array Nat) (W : World) (x y z : Nat), SG L w g off d dk W → x ≤ z → z < y → y ≤ d.size →  Calls Try.prog 77 #[.slice (some ⟨g, off, none⟩) d.size cap, .int .i64 x, .int .i64 y, .int .i64 z] W fun e w' => e = .returned (.tuple #[.int .i64 (Sort.partition lt dk x y z).1, .bool (Sort.partition lt dk x y z).2.1]) ∧ SG L w g off d (Sort.partition lt dk x y z).2.2 w') := Lib.hid (fun dk W x y z h q0 q1 q2 => by
      have h8 := h.size
      have h9 := partition_any hL g off cap x y z dk W h.holds q0 q1 (by omega) (by omega)
      rw [h8] at h9
      exact h9.mono fun e w' k => ⟨k.1, h.step k.2⟩)
    have HIH : Hid (∀ (dk : Array Nat) (W : World) (x y z : Nat), SG L w g off d dk W → y - x < N → x ≤ y → y ≤ d.size → z ≤ 1048576 → Sort.Below lt x y dk →  Calls Try.prog 63 #[.slice (some ⟨g, off, none⟩) d.size cap, .int .i64 x, .int .i64 y, .int .i64 z] W fun e w' => e = .returned (.tuple #[]) ∧ SG L w g off d (Sort.pdq lt dk x y z true true) w') := Lib.hid (fun dk W x y z h q0 q1 q2 q3 q4 => by
      have h8 := h.size
      have h9 := ih g off cap x y z dk W q0 h.holds h.lt q1 (by omega) (by omega) q3 q4
      rw [h8] at h9
      exact h9.mono fun e w' k => ⟨k.1, h.stepG k.2⟩)
    clear hH hg hB0 hL ih
    go_enter Try.func63, Try.ntmps63
    go_wp2
    go_loopg [1, 2, 3, 8, 9] (b - a) (fun gk s1 s2 s3 s8 s9 wr => ∃ (x y l : Nat) (wb wp : Bool) (dk : Array Nat), s1 = .int .i64 x ∧ s2 = .int .i64 y ∧ s3 = .int .i64 l ∧ s8 = .bool wb ∧ s9 = .bool wp ∧ x ≤ y ∧ y ≤ d.size ∧ y - x ≤ gk ∧ gk ≤ b - a ∧ l ≤ lim ∧ Sort.Below lt x y dk ∧ SG L w g off d dk wr ∧ Sort.pdq lt dk x y l wb wp = Sort.pdq lt d a b lim true true)
    case atStart => exact ⟨a, b, lim, true, true, d, rfl, rfl, rfl, rfl, rfl, hab, hb, Nat.le_refl _, Nat.le_refl _, Nat.le_refl _, B0.out, S0.out, rfl⟩
    case round =>
      obtain ⟨x, y, l, wb, wp, dk, rfl, rfl, rfl, rfl, rfl, hxy, hyd, hgk, hgk2, hll, hbl, hsg, hO⟩ := hrel
      have HO := Lib.hid hO
      have HS := Lib.hid hsg
      have HBL := Lib.hid hbl
      have HDS := Lib.hid hsg.size
      clear hO hsg hbl S0 B0
      by_cases h12 : y - x ≤ 12
      · have h12z : (y : Int) - (x : Int) ≤ 12 := by omega
        go_wp2_with fail
        refine (HIN.out dk wr x y HS.out hxy hyd).mono ?_
        rintro e w1 ⟨rfl, hw⟩
        go_wp2_with fail
        exact bodyPost_ret (v := .tuple #[]) (by simp [results, Try.results63, go_sem]) rfl ⟨rfl, by rw [← HO.out, Sort.pdq_small h12]; exact hw⟩
      · have h12z : ¬ ((y : Int) - (x : Int) ≤ 12) := by omega
        by_cases hl0 : l = 0
        · subst hl0
          go_wp2_with fail
          refine (HHP.out dk wr x y HS.out hxy hyd).mono ?_
          rintro e w1 ⟨rfl, hw⟩
          go_wp2_with fail
          exact bodyPost_ret (v := .tuple #[]) (by simp [results, Try.results63, go_sem]) rfl ⟨rfl, by rw [← HO.out, Sort.pdq_heap h12 rfl]; exact hw⟩
        · have hl0z : ¬ ((l : Int) = 0) := by omega
          have hxy1 : x < y := by omega
          obtain ⟨R, hR⟩ : ∃ R, R = Sort.rd lt dk x y l wb wp := ⟨_, rfl⟩
          have hfa := Sort.rd_facts (limit := l) (wb := wb) (wp := wp) swo Sort.partialInsertionSort_holds Sort.reverseRange_holds hxy1 (by rw [HDS.out]; exact hyd) HBL.out
          have hlr := Sort.rd_lim_le (lt := lt) (d := dk) (a := x) (b := y) (limit := l) (wb := wb) (wp := wp)
          rw [← hR] at hfa hlr
          obtain ⟨s1, b1, ⟨c0, c1⟩, s2, b2, ⟨v0, v1⟩, s3, b3⟩ := hfa
          have HS3 := Lib.hid s3
          have HB3 := Lib.hid b3
          have HR := Lib.hid hR
          clear s1 b1 s2 b2 s3 b3 hR
          go_upto_if 35 with fail
          go_cut [3] from 19 to 133 (fun s3 wc => s3 = .int .i64 R.lim ∧ SG L w g off d R.d1 wc)
          case first =>
            cases wb with
            | false =>
              go_wp2_with fail
              refine (HBR.out dk wr x y HS.out hxy hyd).mono ?_
              rintro e w1 ⟨rfl, hw⟩
              have HW := Lib.hid hw
              clear hw
              go_wp2_with fail
              go_meet
              case rel => exact ⟨by rw [HR.out, Sort.rd_false.2]; congr 1; omega, by rw [HR.out, Sort.rd_false.1]; exact HW.out⟩
            | true =>
              go_wp2_with fail
              go_meet
              case rel => exact ⟨by rw [HR.out, Sort.rd_true.2], by rw [HR.out, Sort.rd_true.1]; exact HS.out⟩
          case rest =>
            obtain ⟨rfl, hs1⟩ := hcut
            have HS1 := Lib.hid hs1
            clear hs1 HS
            have hcv := HPV.out R.d1 wc x y HS1.out hxy1 hyd
            rw [show Sort.choosePivot lt R.d1 x y = R.c by rw [HR.out]; rfl] at hcv
            have HCV := Lib.hid hcv
            clear hcv HPV
            obtain ⟨pv, hpv⟩ : ∃ pv, pv = R.c.1 := ⟨_, rfl⟩
            obtain ⟨h, hh⟩ : ∃ h, h = hintN R.c.2 := ⟨_, rfl⟩
            rw [← hpv] at c0 c1
            have HCV2 := HCV.out
            rw [← hpv, ← hh] at HCV2
            have HCV := Lib.hid HCV2
            have HPVE := Lib.hid hpv
            have HHE := Lib.hid hh
            clear HCV2 hpv hh
            go_upto_if 50 with (go_at_call 72; refine HCV.out.mono ?_; rintro e w2 ⟨rfl, hs2⟩)
            have HS2 := Lib.hid hs2
            clear hs2 HS1 HCV
            go_cut [11, 12] from 19 to 133 (fun s11 s12 wc => s11 = .int .i64 R.pivot ∧ s12 = .int .i64 (hintN R.hint) ∧ SG L w g off d R.d2 wc)
            case first =>
              by_cases h2 : h = 2
              · have hd : (Sort.rd lt dk x y l wb wp).c.2 = .decreasing := by rw [← HR.out]; exact (hint_two _).1 (by rw [← HHE.out]; exact h2)
                have hq := Sort.rd_dec hd
                rw [← HR.out, ← HPVE.out] at hq
                have HQ := Lib.hid hq
                subst h2
                clear hd hq
                go_wp2_with fail
                refine (HRV.out R.d1 w2 x y HS2.out hxy1 hyd).mono ?_
                rintro e w3 ⟨rfl, hs3⟩
                have HS3b := Lib.hid hs3
                clear hs3
                go_wp2_with fail
                go_meet
                case rel => exact ⟨by rw [HQ.out.2.1]; congr 1; omega, by rw [HQ.out.2.2]; rfl, by rw [HQ.out.1]; exact HS3b.out⟩
              · have hd : (Sort.rd lt dk x y l wb wp).c.2 ≠ .decreasing := fun e => h2 (by rw [HHE.out, HR.out]; exact (hint_two _).2 e)
                have hq := Sort.rd_not hd
                rw [← HR.out, ← HPVE.out] at hq
                have HQ := Lib.hid hq
                have h2z : ¬ ((h : Int) = 2) := by omega
                clear hd hq
                go_wp2_with fail
                go_meet
                case rel => exact ⟨by rw [HQ.out.2.1], by rw [HQ.out.2.2, HHE.out], by rw [HQ.out.1]; exact HS2.out⟩
            case rest =>
              obtain ⟨rfl, rfl, hs4⟩ := hcut
              have HS4 := Lib.hid hs4
              clear hs4 HS2 HRV HPVE HHE c0 c1
              obtain ⟨h, hh⟩ : ∃ h, h = hintN R.hint := ⟨_, rfl⟩
              rw [← hh]
              have HHE := Lib.hid hh
              clear hh
              go_upto_region 15 with fail
              go_cut [12, 68] from 19 to 133 (fun s12 s68 wx => s12 = .int .i64 h ∧ s68 = .bool (wb && wp && decide (R.hint = .increasing)) ∧ wx = wc)
              case first =>
                by_cases h1 : h = 1
                · have hd : R.hint = .increasing := (hint_one _).1 (by rw [← HHE.out]; exact h1)
                  have HD := Lib.hid hd
                  subst h1
                  clear hd
                  cases wb <;> cases wp <;>
                    (go_wp2_with fail
                     go_meet
                     exact ⟨rfl, by simp [HD.out] <;> omega, rfl⟩)
                · have hd : ¬ (R.hint = .increasing) := fun e => h1 (by rw [HHE.out]; exact (hint_one _).2 e)
                  have h1z : ¬ ((h : Int) = 1) := by omega
                  have HD := Lib.hid hd
                  clear hd
                  cases wb <;> cases wp <;>
                    (go_wp2_with fail
                     go_meet
                     exact ⟨rfl, by simp [HD.out] <;> omega, rfl⟩)
              case rest =>
                obtain ⟨rfl, rfl, rfl⟩ := hcut
                go_upto_if 68 with fail
                go_cut [] from 19 to 133 (fun wx => R.pi.2 = false ∧ SG L w g off d R.pi.1 wx)
                case first =>
                  cases h68 : (wb && wp && decide (R.hint = .increasing)) with
                  | false =>
                    have hq := Sort.rd_pi_no (lt := lt) (d := dk) (a := x) (b := y) (limit := l) (wb := wb) (wp := wp) (by rw [← HR.out]; exact h68)
                    rw [← HR.out] at hq
                    have HQ := Lib.hid hq
                    clear hq h68
                    go_wp2_with fail
                    go_meet
                    case rel => exact ⟨by rw [HQ.out], by rw [HQ.out]; exact HS4.out⟩
                  | true =>
                    have hq := Sort.rd_pi_yes (lt := lt) (d := dk) (a := x) (b := y) (limit := l) (wb := wb) (wp := wp) (by rw [← HR.out]; exact h68)
                    rw [← HR.out] at hq
                    have hcp := HPI.out R.d2 wc x y HS4.out hxy1 hyd
                    rw [← hq] at hcp
                    have HCP := Lib.hid hcp
                    clear hcp hq h68
                    cases hp : R.pi.2 with
                    | false =>
                      have HP := Lib.hid hp
                      rw [hp] at HCP
                      clear hp
                      go_wp2_with fail
                      refine HCP.out.mono ?_
                      rintro e w4 ⟨rfl, hw⟩
                      have HW := Lib.hid hw
                      clear hw
                      go_wp2_with fail
                      go_meet
                      case rel => exact ⟨HP.out, HW.out⟩
                    | true =>
                      have HP := Lib.hid hp
                      rw [hp] at HCP
                      clear hp
                      go_wp2_with fail
                      refine HCP.out.mono ?_
                      rintro e w4 ⟨rfl, hw⟩
                      have HW := Lib.hid hw
                      clear hw
                      go_wp2_with fail
                      exact bodyPost_ret (v := .tuple #[]) (by simp [results, Try.results63, go_sem]) rfl ⟨rfl, by rw [← HO.out, Sort.pdq_done h12 hl0 (by rw [← HR.out]; exact HP.out), ← HR.out]; exact HW.out⟩
                case rest =>
                  obtain ⟨hp2, hs5⟩ := hcut
                  have HP2 := Lib.hid hp2
                  have HS5 := Lib.hid hs5
                  clear hp2 hs5 HS4 HPI
                  obtain ⟨G, hG⟩ : ∃ G : Nat → Nat, ∀ t, G t = R.pi.1[t]! := ⟨fun t => R.pi.1[t]!, fun _ => rfl⟩
                  have hcw : ∀ t, t < d.size → wc.cell? ⟨g, off + t, none⟩ = some (.float .f64 (L (G t))) := fun t ht => by rw [hG]; exact HS5.out.cell t ht
                  have hfw : ∀ t, t < d.size → wc.frozen? ⟨g, off + t, none⟩ = false := fun t ht => HS5.out.frozen t ht
                  obtain ⟨pv, hpv⟩ : ∃ pv, pv = R.pivot := ⟨_, rfl⟩
                  rw [← hpv] at v0 v1
                  rw [← hpv]
                  have HPV2 := Lib.hid hpv
                  have HG := Lib.hid hG
                  clear hpv hG
                  go_upto_region 17 with fail
                  go_cut [87] from 19 to 133 (fun s87 wx => s87 = .bool (decide (x > 0) && !lt R.pi.1[x - 1]! R.pi.1[pv]!) ∧ SG L w g off d R.pi.1 wx)
                  case first =>
                    rcases Nat.eq_zero_or_pos x with hx0 | hx0
                    · have hx0z : decide ((x : Int) > 0) = false := decide_eq_false (by omega)
                      go_big_quiet (first | (go_at_call 75; refine Calls.quiet_of_same (HLS.out _ _ _)))
                      go_wp2_with fail
                      go_meet
                      case rel => exact ⟨by simp [hx0], HS5.out.drewN nq⟩
                    · have hx0z : (x : Int) > 0 := by omega
                      go_big_quiet (first | (go_at_call 75; refine Calls.quiet_of_same (HLS.out _ _ _)))
                      go_wp2_with fail
                      go_meet
                      case rel => exact ⟨by simp [hx0, HG.out], HS5.out.drewN nq⟩
                  case rest =>
                    obtain ⟨rfl, hs6⟩ := hcut
                    have HS6 := Lib.hid hs6
                    clear hs6 hcw hfw HG HS5
                    cases h87 : (decide (x > 0) && !lt R.pi.1[x - 1]! R.pi.1[pv]!) with
                    | true =>
                      have hk := h87
                      simp only [Bool.and_eq_true, decide_eq_true_eq, Bool.not_eq_true'] at hk
                      obtain ⟨m, d4, hx⟩ : ∃ m d4, Sort.partitionEqual lt R.pi.1 x y pv = (m, d4) := ⟨(Sort.partitionEqual lt R.pi.1 x y pv).1, (Sort.partitionEqual lt R.pi.1 x y pv).2, rfl⟩
                      obtain ⟨r1, r2, r3, r4, _⟩ := Sort.round_eq swo (Sort.partitionEqual_holds lt) hk.1 v0 v1 (by rw [HS3.out, HDS.out]; exact hyd) HB3.out hk.2 hx
                      have hce := HPE.out R.pi.1 wc x y pv HS6.out v0 v1 hyd
                      rw [hx] at hce
                      have hq := Sort.pdq_eq (lt := lt) (d := dk) (a := x) (b := y) (limit := l) (wb := wb) (wp := wp) h12 hl0
                      rw [← HR.out, ← HPV2.out, hx] at hq
                      have HQ := Lib.hid (hq HP2.out h87 ⟨r1, r2⟩)
                      have HCE := Lib.hid hce
                      have HR4 := Lib.hid r4
                      clear hk hx hce hq h87 r3 r4
                      go_wp2_with fail
                      refine HCE.out.mono ?_
                      rintro e w7 ⟨rfl, hw⟩
                      have HW := Lib.hid hw
                      clear hw
                      go_wp2
                      go_roundg (y - m)
                      case measure => omega
                      case rel => exact ⟨m, y, R.lim, wb, wp, d4, rfl, rfl, rfl, rfl, rfl, r2, hyd, Nat.le_refl _, by omega, by omega, HR4.out, HW.out, by rw [← HO.out]; exact HQ.out.symm⟩
                    | false =>
                      obtain ⟨m, ap, d4, hx⟩ : ∃ m ap d4, Sort.partition lt R.pi.1 x y pv = (m, ap, d4) := ⟨(Sort.partition lt R.pi.1 x y pv).1, (Sort.partition lt R.pi.1 x y pv).2.1, (Sort.partition lt R.pi.1 x y pv).2.2, rfl⟩
                      obtain ⟨r1, r2, r3, r4, r5, r6, r7⟩ := Sort.round_part swo (Sort.partition_holds lt) v0 v1 (by rw [HS3.out, HDS.out]; exact hyd) HB3.out hx
                      have hce := HPT.out R.pi.1 wc x y pv HS6.out v0 v1 hyd
                      rw [hx] at hce
                      have HCE := Lib.hid hce
                      have hd4 : d4.size = d.size := r3.trans (HS3.out.trans HDS.out)
                      have HK := Lib.hid (⟨hx, h87, r3, r4, r5, r6, r7, hd4⟩ : _ ∧ _ ∧ _ ∧ _ ∧ _ ∧ _ ∧ _ ∧ _)
                      clear hx h87 r3 r4 r5 r6 r7 hce hd4
                      go_upto_if 113 with (go_at_call 77; refine HCE.out.mono ?_; rintro e w7 ⟨rfl, hw⟩)
                      have HW := Lib.hid hw
                      clear hw
                      obtain ⟨hx, h87, r3, r4, r5, r6, r7, hd4⟩ := HK.out
                      by_cases h4 : m - x < y - m
                      · have h4z : (m : Int) - (x : Int) < (y : Int) - (m : Int) := by omega
                        have hq := Sort.pdq_left (lt := lt) (d := dk) (a := x) (b := y) (limit := l) (wb := wb) (wp := wp) h12 hl0
                        rw [← HR.out, ← HPV2.out, hx] at hq
                        have HQ := Lib.hid (hq HP2.out h87 ⟨r1, r2⟩ h4)
                        obtain ⟨pL, sL⟩ := Sort.pdq_sorts lt swo d4 x m R.lim true true (by omega) (by omega) r4
                        have HBX := Lib.hid (r6 _ pL sL).1
                        clear pL sL hx hq h87 r3 r6 r7
                        have HR45 := Lib.hid r4
                        clear r4 r5
                        go_wp2_with fail
                        refine (HIH.out d4 w7 x m R.lim HW.out (by omega) (by omega) (by omega) (by omega) HR45.out).mono ?_
                        rintro e w8 ⟨rfl, hw8⟩
                        have HW8 := Lib.hid hw8
                        clear hw8
                        go_wp2
                        go_roundg (y - (m + 1))
                        case measure => omega
                        case rel => exact ⟨m + 1, y, R.lim, _, ap, _, by first | rfl | go_num, rfl, rfl, congrArg Value.bool (by first | exact an_eighth (by omega) (by omega) | exact an_eighth2 (by omega) (by omega)), rfl, by omega, by omega, Nat.le_refl _, by omega, by omega, HBX.out, HW8.out, by rw [← HO.out]; exact HQ.out.symm⟩
                      · have h4z : ¬ ((m : Int) - (x : Int) < (y : Int) - (m : Int)) := by omega
                        have hq := Sort.pdq_right (lt := lt) (d := dk) (a := x) (b := y) (limit := l) (wb := wb) (wp := wp) h12 hl0
                        rw [← HR.out, ← HPV2.out, hx] at hq
                        have HQ := Lib.hid (hq HP2.out h87 ⟨r1, r2⟩ h4)
                        obtain ⟨pL, sL⟩ := Sort.pdq_sorts lt swo d4 (m + 1) y R.lim true true (by omega) (by omega) r5
                        have HBX := Lib.hid (r7 _ pL sL).1
                        clear pL sL hx hq h87 r3 r6 r7
                        have HR45 := Lib.hid r5
                        clear r4 r5
                        go_wp2_with fail
                        refine (HIH.out d4 w7 (m + 1) y R.lim HW.out (by omega) (by omega) (by omega) (by omega) HR45.out).mono ?_
                        rintro e w8 ⟨rfl, hw8⟩
                        have HW8 := Lib.hid hw8
                        clear hw8
                        go_wp2
                        go_roundg (m - x)
                        case measure => omega
                        case rel => exact ⟨x, m, R.lim, _, ap, _, by first | rfl | go_num, rfl, rfl, congrArg Value.bool (by first | exact an_eighth (by omega) (by omega) | exact an_eighth2 (by omega) (by omega)), rfl, by omega, by omega, Nat.le_refl _, by omega, by omega, HBX.out, HW8.out, by rw [← HO.out]; exact HQ.out.symm⟩
end Go.Proofs.Ytcjmigjkjepkdaa
