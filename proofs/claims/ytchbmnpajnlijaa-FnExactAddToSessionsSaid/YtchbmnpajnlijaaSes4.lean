/- Chapter 11, spec's side: l11SessionsOk, AddToSessions. (made by tools/mksess4.py) -/
import Derived.Test.YtchbmnpajnlijaaPlainSes4
import Derived.Test.YtchbmnpajnlijaaSes3
import Derived.Test.YtchbmnpajnlijaaSes1
namespace Go.Proofs.Ytchbmnpajnlijaa
open Go.RowKit
set_option maxHeartbeats 4000000 in
set_option maxRecDepth 100000 in
theorem specOkS_any (a : Option Addr) (n c : Nat) (l : List Ss) (gap : Int) (hi : Nat) (w : World) (hr : Sss w hi a c l) (hn : n = l.length) (hB : hi ≤ w.heap.size) :
    Calls Try.prog 94 #[.slice a n c, .int .i64 gap] w fun e w' => e = .returned (.bool (okS l gap)) ∧ Below w.heap.size w w' := by
  subst hn
  have m1 := hr.cap
  have m2 := hr.big
  have HR := Lib.hid hr
  clear hr
  by_cases h1 : l.length ≤ 200
  · have hd' : ¬ (200 : Int) < (l.length : Int) := by omega
    cases h2 : inB gap 0 1000000 with
    | false =>
      rw [okS_no2 h2]
      go_enter Try.func94, Try.ntmps94
      go_wp2_with (go_at_call 59; refine (specIn_any _ _ _ _).mono ?_; rintro e w' ⟨rfl, rfl⟩)
      go_ret
      exact ⟨rfl, Below.refl _ _⟩
    | true =>
      have hg := inB_bd h2
      have HNO := Lib.hid (fun (k : Nat) hk h => okS_no3 (l := l) (gap := gap) (k := k) hk h)
      have HYES := Lib.hid (fun h => okS_yes (l := l) h1 h2 h)
      generalize okS l gap = R at HNO HYES ⊢
      go_enter Try.func94, Try.ntmps94
      go_wp2_with (go_at_call 59; refine (specIn_any _ _ _ _).mono ?_; rintro e w' ⟨rfl, rfl⟩)
      clear hd' h2
      go_loopw [5] (fun i wr => ∃ k : Nat, k ≤ l.length ∧ i = .int .i64 (k : Int) ∧ goodTo gap l k ∧ Below w.heap.size w wr) (fun i _ => l.length - (intOf i).toNat)
      case atStart => exact ⟨0, Nat.zero_le _, rfl, fun i hi => by omega, Below.refl _ _⟩
      case round =>
        obtain ⟨k, hk, rfl, hok, hb⟩ := hrel
        have HOK := Lib.hid hok
        have HB := Lib.hid hb
        clear hok hb
        by_cases hlt : k < l.length
        · obtain ⟨b1, off, rfl, hbh, hcell⟩ := Sss.six (HR.out.below (HB.out.mono hB)) (by omega)
          have hlt' : (k : Int) < (l.length : Int) := by omega
          have hnn : 0 ≤ (k : Int) := by omega
          obtain ⟨p0, p1, p2, p3, p4⟩ := hcell k hlt
          have SO := Lib.hid (fun W => specSesOk_x (zel l k).ky (zel l k).fr (zel l k).tt (zel l k).ct (zel l k).sm W)
          have eS : (⟨(zel l k).ky, (zel l k).fr, (zel l k).tt, (zel l k).ct, (zel l k).sm⟩ : Ss) = zel l k := rfl
          rw [eS] at SO
          clear hcell eS
          cases hs : sesOk (zel l k) with
          | false =>
            have HX := Lib.hid (HNO.out k hlt (by unfold goodAt; rw [hs]; rfl))
            rw [hs] at SO
            clear HNO HYES hs
            go_wp2_with fail
            refine (SO.out _).mono ?_
            rintro e w3 ⟨rfl, hb⟩
            have HB3 := Lib.hid (HB.out.trans (hb.mono HB.out.size))
            clear hb
            go_wp2
            go_ret
            exact ⟨by rw [HX.out]; rfl, HB3.out⟩
          | true =>
            rw [hs] at SO
            have bk := sesOk_bd hs
            have HST : Hid (goodAt gap l k = true → goodTo gap l (k + 1)) := Lib.hid (fun h i hi => by
              rcases Nat.lt_or_ge i k with h' | h'
              · exact HOK.out i h'
              · obtain rfl : i = k := by omega
                exact h)
            by_cases hk0 : k = 0
            · have hg1 := Lib.hid (HST.out (by unfold goodAt; rw [hs, hk0]; rfl))
              have hk9 : ¬ (0 : Int) < (k : Int) := by omega
              clear HST hs bk hk0
              go_wp2_with fail
              refine (SO.out _).mono ?_
              rintro e w3 ⟨rfl, hb⟩
              have HB3 := Lib.hid (HB.out.trans (hb.mono HB.out.size))
              clear hb p0 p1 p2 p3 p4
              go_wp2
              go_roundw
              case rel => exact ⟨k + 1, by omega, by go_num, hg1.out, HB3.out⟩
              case measure => simp [intOf]; omega
            · obtain ⟨j, hj⟩ : ∃ j, j = k - 1 := ⟨_, rfl⟩
              have hjk : j < k := by omega
              have bj : sesOk (zel l j) = true := by
                have := HOK.out j (by omega)
                unfold goodAt at this
                rw [Bool.and_eq_true] at this
                exact this.1
              have bj := sesOk_bd bj
              have HX2 : Hid (badP gap (zel l j) (zel l k) = true → R = false) := Lib.hid (fun h => HNO.out k hlt (by unfold goodAt; rw [← hj, h]; simp [hk0]))
              have HG2 : Hid (badP gap (zel l j) (zel l k) = false → goodTo gap l (k + 1)) := Lib.hid (fun h => HST.out (by unfold goodAt; rw [hs, ← hj, h]; simp))
              have hwj : wrap64 ((k : Int) - 1) = (j : Int) := by unfold wrap64; omega
              have hwj2 : IntKind.i64.wrap ((k : Int) - 1) = (j : Int) := by rw [IntWalk.i64_in _ (by omega)]; omega
              have hpos : (0 : Int) < (k : Int) := by omega
              have hjn : 0 ≤ (j : Int) := by omega
              have hjl : (j : Int) < (l.length : Int) := by omega
              have CL : Hid (∀ W, Below w.heap.size w W → (W.cell? ⟨b1, off + j * 5, none⟩ = some (.int .i64 (zel l j).ky) ∧ W.cell? ⟨b1, off + j * 5 + 1, none⟩ = some (.int .i64 (zel l j).fr) ∧ W.cell? ⟨b1, off + j * 5 + 2, none⟩ = some (.int .i64 (zel l j).tt) ∧ W.cell? ⟨b1, off + j * 5 + 3, none⟩ = some (.int .i64 (zel l j).ct) ∧ W.cell? ⟨b1, off + j * 5 + 4, none⟩ = some (.int .i64 (zel l j).sm)) ∧
                  (W.cell? ⟨b1, off + k * 5, none⟩ = some (.int .i64 (zel l k).ky) ∧ W.cell? ⟨b1, off + k * 5 + 1, none⟩ = some (.int .i64 (zel l k).fr) ∧ W.cell? ⟨b1, off + k * 5 + 2, none⟩ = some (.int .i64 (zel l k).tt) ∧ W.cell? ⟨b1, off + k * 5 + 3, none⟩ = some (.int .i64 (zel l k).ct) ∧ W.cell? ⟨b1, off + k * 5 + 4, none⟩ = some (.int .i64 (zel l k).sm))) := Lib.hid (fun W hW => by
                obtain ⟨b', off', he, _, hc⟩ := Sss.six (HR.out.below (hW.mono hB)) (by omega)
                injection he with he
                injection he with e1 e2
                subst e1 e2
                exact ⟨hc j (by omega), hc k hlt⟩)
              clear HST hs HNO HYES hk0 hj
              go_wp2_with fail
              refine (SO.out _).mono ?_
              rintro e w3 ⟨rfl, hb⟩
              have HB3 := Lib.hid (HB.out.trans (hb.mono HB.out.size))
              clear hb p0 p1 p2 p3 p4
              have HB4 := Lib.hid fun v0 v1 : Array Value => (HB3.out.alloc HB3.out.size (.cells v0 33)).alloc (by simp; have := HB3.out.size; omega) (.cells v1 33)
              obtain ⟨⟨p0, p1, p2, p3, p4⟩, q0, q1, q2, q3, q4⟩ := CL.out w3 HB3.out
              have hb3 : b1 < w3.heap.size := by have := HB3.out.size; omega
              clear CL SO
              generalize zel l j = X at bj p0 p1 p2 p3 p4 HX2 HG2
              generalize zel l k = Y at bk q0 q1 q2 q3 q4 HX2 HG2
              obtain ⟨x0, x1, x2, x3, x4⟩ := X
              obtain ⟨y0, y1, y2, y3, y4⟩ := Y
              simp only at bj bk p0 p1 p2 p3 p4 q0 q1 q2 q3 q4
              have hwx : wrap64 (x2 + gap) = x2 + gap := by unfold wrap64; omega
              by_cases c1 : y0 < x0
              · have HX3 := Lib.hid (HX2.out (decide_eq_true (.inl c1)))
                clear HX2 HG2
                go_wp2
                go_ret
                exact ⟨by rw [HX3.out]; rfl, HB4.out _ _⟩
              · by_cases c2 : x0 = y0
                · have c2b : (x0 == y0) = true := by simp [c2]
                  by_cases c3 : y1 ≤ x2 + gap
                  · have HX3 := Lib.hid (HX2.out (decide_eq_true (.inr ⟨c2, c3⟩)))
                    clear HX2 HG2 c2
                    go_wp2
                    go_ret
                    exact ⟨by rw [HX3.out]; rfl, HB4.out _ _⟩
                  · have HG3 := Lib.hid (HG2.out (decide_eq_false (fun h => h.elim c1 (fun h => c3 h.2))))
                    clear HX2 HG2 c2
                    go_wp2
                    go_roundw
                    case rel => exact ⟨k + 1, by omega, by go_num, HG3.out, HB4.out _ _⟩
                    case measure => simp [intOf]; omega
                · have c2b : (x0 == y0) = false := beq_eq_false_iff_ne.2 c2
                  have HG3 := Lib.hid (HG2.out (decide_eq_false (fun h => h.elim c1 (fun h => c2 h.1))))
                  clear HX2 HG2 c2
                  go_wp2
                  go_roundw
                  case rel => exact ⟨k + 1, by omega, by go_num, HG3.out, HB4.out _ _⟩
                  case measure => simp [intOf]; omega
        · obtain rfl : k = l.length := by omega
          have HX := Lib.hid (HYES.out HOK.out)
          clear HNO HYES
          go_wp2
          go_ret
          exact ⟨by rw [HX.out]; rfl, HB.out⟩
  · rw [okS_no1 h1]
    have hd' : (200 : Int) < (l.length : Int) := by omega
    go_enter Try.func94, Try.ntmps94
    go_wp2_with (go_at_call 59; refine (specIn_any _ _ _ _).mono ?_; rintro e w' ⟨rfl, rfl⟩)
    go_ret
    exact ⟨rfl, Below.refl _ _⟩
end Go.Proofs.Ytchbmnpajnlijaa
