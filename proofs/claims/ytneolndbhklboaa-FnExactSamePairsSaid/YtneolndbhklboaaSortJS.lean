/- Chapter 12, spec's side: SortPairs. (made by tools/mksortj.py) -/
import Derived.Test.YtneolndbhklboaaPlainJn5
import Derived.Test.YtneolndbhklboaaPairA
import Derived.Deep.QuietTactic
import Derived.BigQuiet
import Derived.StillTailTactics
namespace Go.Proofs.Ytneolndbhklboaa
open Go.RowKit
set_option maxHeartbeats 4000000 in
set_option maxRecDepth 100000 in
theorem sSort_any (a : Option Addr) (n c : Nat) (l : List Pr) (hi : Nat) (w : World) (hr : Prs w hi a c l) (hn : n = l.length) (hB : hi ≤ w.heap.size) :
    Calls Try.prog 39 #[.slice a n c] w (FreshR gC 53 5 (srtJ l) w) := by
  subst hn
  have m1 := hr.cap
  have m2 := hr.big
  have HR := Lib.hid hr
  have B0 := Lib.hid ((Below.refl w.heap.size w).alloc (Nat.le_refl _) (.cells #[] 53))
  have O0 := Lib.hid (own0G w w.heap.size (Nat.le_refl _))
  clear hr
  by_cases h16 : l.length ≤ 1600
  · rw [show srtJ l = sortTo l l.length from if_pos h16]
    have hd : ¬ (1600 : Int) < (l.length : Int) := by omega
    go_enter Try.func39, Try.ntmps39
    go_wp2
    clear hd
    go_loopw [3, 4] (fun ls i wr => ∃ (k : Nat) (a3 : Option Addr) (c3 : Nat), k ≤ l.length ∧ i = .int .i64 (k : Int) ∧ ls = .slice a3 k c3 ∧ wr.ownsRow w.heap.size 53 5 (.slice a3 k c3) k (flatG (sortTo l k)) ∧ Below w.heap.size w wr) (fun _ i _ => l.length - (intOf i).toNat)
    case atStart => exact ⟨0, _, 0, Nat.zero_le _, rfl, rfl, O0.out, B0.out⟩
    case round =>
      obtain ⟨k, a3, c3, hk, rfl, rfl, ho, hb⟩ := hrel
      by_cases hlt : k < l.length
      · obtain ⟨w1, hw1⟩ : ∃ w1, w1 = wr := ⟨_, rfl⟩
        subst hw1
        obtain ⟨bl, ol, rfl, hbl, hcl⟩ := Prs.six HR.out (by omega)
        have hlt' : (k : Int) < (l.length : Int) := by omega
        have hnn : 0 ≤ (k : Int) := by omega
        have CL := Lib.hid (hcl k hlt)
        have ST := Lib.hid (sortTo_step hlt)
        have SL := Lib.hid (sortTo_len (l := l) hk)
        have PO := Prs.of_own ho
        have ho1 := ownR_cap ho
        have WB := Lib.hid hb
        have hsz1 := hb.size
        have PO := Lib.hid PO
        have RO := Lib.hid (own0G w1 w1.heap.size (Nat.le_refl _))
        have RB := Lib.hid ((Below.refl w1.heap.size w1).alloc (Nat.le_refl _) (.cells #[] 53))
        clear hcl ho hb
        generalize gel l k = X at CL ST
        obtain ⟨x0, x1, x2, x3, x4⟩ := X
        simp only at CL
        have NL := Lib.hid (fun q hq => nk_len (x := ⟨x0, x1, x2, x3, x4⟩) (out := sortTo l k) (k := q) hq)
        generalize sortTo l k = OUT at SL PO ST NL
        go_wp2
        go_loopw [5, 6, 7] (fun ls pt j w2 => ∃ (q m : Nat) (an : Option Addr) (cn : Nat), q ≤ k ∧ j = .int .i64 (q : Int) ∧ pt = .bool (pk ⟨x0, x1, x2, x3, x4⟩ OUT q) ∧ ls = .slice an m cn ∧ m = (nk ⟨x0, x1, x2, x3, x4⟩ OUT q).length ∧ w2.ownsRow w1.heap.size 53 5 (.slice an m cn) m (flatG (nk ⟨x0, x1, x2, x3, x4⟩ OUT q)) ∧ Below w1.heap.size w1 w2) (fun _ _ j _ => k - (intOf j).toNat)
        case atStart => exact ⟨0, 0, _, 0, Nat.zero_le _, rfl, rfl, rfl, rfl, RO.out, RB.out⟩
        case round =>
          obtain ⟨q, m, an, cn, hq, rfl, rfl, rfl, hm, ho, hb⟩ := hrel
          have RO := Lib.hid ho
          have RB := Lib.hid hb
          have HM := Lib.hid hm
          have hm2 : m ≤ q + 1 := by rw [hm]; exact NL.out q (by rw [SL.out]; exact hq)
          clear ho hb hm
          by_cases hlt2 : q < k
          · have hlt2' : (q : Int) < (k : Int) := by omega
            have hnn2 : 0 ≤ (q : Int) := by omega
            have hqO : q < OUT.length := by rw [SL.out]; exact hlt2
            have PS := Lib.hid (pk_step (x := ⟨x0, x1, x2, x3, x4⟩) hqO)
            have N1 := Lib.hid (fun h => nk_put (x := ⟨x0, x1, x2, x3, x4⟩) hqO h)
            have N2 := Lib.hid (fun h h2 => nk_now (x := ⟨x0, x1, x2, x3, x4⟩) hqO h h2)
            have N3 := Lib.hid (fun h h2 => nk_not (x := ⟨x0, x1, x2, x3, x4⟩) hqO h h2)
            obtain ⟨bo, oo, rfl, hbo, hco⟩ := Prs.six PO.out (by omega)
            have CO := Lib.hid (hco q hqO)
            clear hco
            generalize gel OUT q = Y at CO PS N1 N2 N3
            obtain ⟨y0, y1, y2, y3, y4⟩ := Y
            simp only at CO
            have CC : Hid (∀ W : World, Below w1.heap.size w1 W → (W.cell? ⟨bl, ol + k * 5, none⟩ = some (.int .i64 x0) ∧ W.cell? ⟨bl, ol + k * 5 + 1, none⟩ = some (.int .i64 x1) ∧ W.cell? ⟨bl, ol + k * 5 + 2, none⟩ = some (.int .i64 x2) ∧ W.cell? ⟨bl, ol + k * 5 + 3, none⟩ = some (.int .i64 x3) ∧ W.cell? ⟨bl, ol + k * 5 + 4, none⟩ = some (.int .i64 x4)) ∧
                (W.cell? ⟨bo, oo + q * 5, none⟩ = some (.int .i64 y0) ∧ W.cell? ⟨bo, oo + q * 5 + 1, none⟩ = some (.int .i64 y1) ∧ W.cell? ⟨bo, oo + q * 5 + 2, none⟩ = some (.int .i64 y2) ∧ W.cell? ⟨bo, oo + q * 5 + 3, none⟩ = some (.int .i64 y3) ∧ W.cell? ⟨bo, oo + q * 5 + 4, none⟩ = some (.int .i64 y4))) := Lib.hid (fun W hW => by
              have g1 : ∀ z, W.cell? ⟨bl, z, none⟩ = w.cell? ⟨bl, z, none⟩ := fun z => (hW.cell (p := ⟨bl, z, none⟩) (show bl < w1.heap.size by omega)).trans (WB.out.cell (p := ⟨bl, z, none⟩) (show bl < w.heap.size by omega))
              have g2 : ∀ z, W.cell? ⟨bo, z, none⟩ = w1.cell? ⟨bo, z, none⟩ := fun z => hW.cell (p := ⟨bo, z, none⟩) (show bo < w1.heap.size by omega)
              simp only [g1, g2]
              exact ⟨CL.out, CO.out⟩)
            have SPL := Lib.hid (fun W => sPairLess_x x0 x1 x2 x3 x4 y0 y1 y2 y3 y4 W)
            cases hp : pk ⟨x0, x1, x2, x3, x4⟩ OUT q with
            | true =>
              rw [hp] at PS
              have HE := Lib.hid (N1.out hp)
              have HP : Hid (pk ⟨x0, x1, x2, x3, x4⟩ OUT (q + 1) = true) := Lib.hid (by rw [PS.out]; rfl)
              clear PS N1 N2 N3 SPL hp
              go_wp2_with fail
              go_quiet (fail)
              have RO := Lib.hid (show (wr.drewN nq).ownsRow _ _ _ _ _ _ from RO.out)
              have RB := Lib.hid (below_drewN RB.out nq)
              generalize wr.drewN nq = w3 at RO RB ⊢
              obtain ⟨⟨p0, p1, p2, p3, p4⟩, r0, r1, r2, r3, r4⟩ := CC.out w3 RB.out
              obtain ⟨ax, cx, wx, hr3, ho3, hb3, _⟩ := appendG ⟨y0, y1, y2, y3, y4⟩ HM.out RO.out RB.out.size (by omega) 30
              have R3 := Lib.hid hr3
              have RO := Lib.hid ho3
              have RB := Lib.hid (RB.out.trans hb3)
              clear hr3 ho3 hb3
              go_wp2_with (at_builtin; refine Lib.wpList_append_run _ rfl _ _ _ _ rfl _ _ rfl rfl _ _ R3.out ?_)
              go_roundw
              case rel => exact ⟨q + 1, m + 1, ax, cx, by omega, by go_num, by rw [HP.out], rfl, by rw [HE.out, List.length_append, ← HM.out]; rfl, by rw [HE.out]; exact RO.out, RB.out⟩
              case measure => simp [intOf]; omega
            | false =>
              rw [hp] at PS
              obtain ⟨⟨p0, p1, p2, p3, p4⟩, r0, r1, r2, r3, r4⟩ := CC.out wr RB.out
              go_wp2_with fail
              go_still_tail 11, (by kernel_rfl)
              change wpList _ _ _ _ _ wr.drew
              clear p0 p1 p2 p3 p4 r0 r1 r2 r3 r4
              have RO := Lib.hid (show wr.drew.ownsRow _ _ _ _ _ _ from RO.out)
              have RB := Lib.hid RB.out.drew
              generalize wr.drew = w3 at RO RB ⊢
              cases hv : prLess ⟨x0, x1, x2, x3, x4⟩ ⟨y0, y1, y2, y3, y4⟩ with
              | true =>
                have HE := Lib.hid (N2.out hp hv)
                have HP : Hid (pk ⟨x0, x1, x2, x3, x4⟩ OUT (q + 1) = true) := Lib.hid (by rw [PS.out, hv]; rfl)
                rw [hv] at SPL
                clear PS N1 N2 N3 hp hv
                go_wp2_with fail
                refine (SPL.out _).mono ?_
                rintro e w4 ⟨rfl, hb⟩
                have RO := Lib.hid (owns_below RO.out hb)
                have RB := Lib.hid (RB.out.trans (hb.mono RB.out.size))
                clear hb
                obtain ⟨⟨p0, p1, p2, p3, p4⟩, r0, r1, r2, r3, r4⟩ := CC.out w4 RB.out
                obtain ⟨ax, cx, wx, hr3, ho3, hb3, _⟩ := appendG ⟨x0, x1, x2, x3, x4⟩ HM.out RO.out RB.out.size (by omega) 30
                have R3 := Lib.hid hr3
                have RO := Lib.hid ho3
                have RB := Lib.hid (RB.out.trans hb3)
                clear hr3 ho3 hb3
                obtain ⟨⟨s0, s1, s2, s3, s4⟩, u0, u1, u2, u3, u4⟩ := CC.out wx RB.out
                obtain ⟨ay, cy, wy, hr4, ho4, hb4, _⟩ := appendG ⟨y0, y1, y2, y3, y4⟩ (by rw [List.length_append, ← HM.out]; rfl) RO.out RB.out.size (by omega) 30
                have R4 := Lib.hid hr4
                have RO := Lib.hid ho4
                have RB := Lib.hid (RB.out.trans hb4)
                clear hr4 ho4 hb4
                go_wp2_with (at_builtin; (first | refine Lib.wpList_append_run _ rfl _ _ _ _ rfl _ _ rfl rfl _ _ R3.out ?_ | refine Lib.wpList_append_run _ rfl _ _ _ _ rfl _ _ rfl rfl _ _ R4.out ?_))
                go_roundw
                case rel => exact ⟨q + 1, m + 1 + 1, ay, cy, by omega, by go_num, by rw [HP.out], rfl, by rw [HE.out, List.length_append, List.length_append, ← HM.out]; rfl, by rw [HE.out]; exact RO.out, RB.out⟩
                case measure => simp [intOf]; omega
              | false =>
                have HE := Lib.hid (N3.out hp hv)
                have HP : Hid (pk ⟨x0, x1, x2, x3, x4⟩ OUT (q + 1) = false) := Lib.hid (by rw [PS.out, hv]; rfl)
                rw [hv] at SPL
                clear PS N1 N2 N3 hp hv
                go_wp2_with fail
                refine (SPL.out _).mono ?_
                rintro e w4 ⟨rfl, hb⟩
                have RO := Lib.hid (owns_below RO.out hb)
                have RB := Lib.hid (RB.out.trans (hb.mono RB.out.size))
                clear hb
                obtain ⟨⟨p0, p1, p2, p3, p4⟩, r0, r1, r2, r3, r4⟩ := CC.out w4 RB.out
                obtain ⟨ax, cx, wx, hr3, ho3, hb3, _⟩ := appendG ⟨y0, y1, y2, y3, y4⟩ HM.out RO.out RB.out.size (by omega) 30
                have R3 := Lib.hid hr3
                have RO := Lib.hid ho3
                have RB := Lib.hid (RB.out.trans hb3)
                clear hr3 ho3 hb3
                go_wp2_with (at_builtin; refine Lib.wpList_append_run _ rfl _ _ _ _ rfl _ _ rfl rfl _ _ R3.out ?_)
                go_roundw
                case rel => exact ⟨q + 1, m + 1, ax, cx, by omega, by go_num, by rw [HP.out], rfl, by rw [HE.out, List.length_append, ← HM.out]; rfl, by rw [HE.out]; exact RO.out, RB.out⟩
                case measure => simp [intOf]; omega
          · obtain rfl : q = k := by omega
            have hqO := SL.out.symm
            cases hp : pk ⟨x0, x1, x2, x3, x4⟩ OUT q with
            | true =>
              have HE : Hid (nk ⟨x0, x1, x2, x3, x4⟩ OUT q = insP ⟨x0, x1, x2, x3, x4⟩ OUT) := Lib.hid (by subst hqO; exact nk_end1 hp)
              have HL : Hid (m = q + 1) := Lib.hid (by rw [HM.out, HE.out, insP_len, SL.out])
              rw [HE.out, ← ST.out] at RO
              have hl := HL.out
              clear hqO hp
              go_wp2
              go_roundw
              case rel => exact ⟨q + 1, an, cn, by omega, by go_num, by first | rfl | rw [hl], by (try rw [hl] at RO); exact owns_less RO.out hsz1, WB.out.trans (RB.out.mono hsz1)⟩
              case measure => simp [intOf]; omega
            | false =>
              have HE : Hid (nk ⟨x0, x1, x2, x3, x4⟩ OUT q ++ [⟨x0, x1, x2, x3, x4⟩] = insP ⟨x0, x1, x2, x3, x4⟩ OUT) := Lib.hid (by subst hqO; exact nk_end2 hp)
              have HL : Hid (m + 1 = q + 1) := Lib.hid (by have := congrArg List.length HE.out; rw [List.length_append, ← HM.out, insP_len, SL.out] at this; exact this)
              clear hqO hp
              have p0 := (RB.out.cell (p := ⟨bl, ol + q * 5, none⟩) (show bl < w1.heap.size by omega)).trans ((WB.out.cell (p := ⟨bl, ol + q * 5, none⟩) (show bl < w.heap.size by omega)).trans CL.out.1)
              have p1 := (RB.out.cell (p := ⟨bl, ol + q * 5 + 1, none⟩) (show bl < w1.heap.size by omega)).trans ((WB.out.cell (p := ⟨bl, ol + q * 5 + 1, none⟩) (show bl < w.heap.size by omega)).trans CL.out.2.1)
              have p2 := (RB.out.cell (p := ⟨bl, ol + q * 5 + 2, none⟩) (show bl < w1.heap.size by omega)).trans ((WB.out.cell (p := ⟨bl, ol + q * 5 + 2, none⟩) (show bl < w.heap.size by omega)).trans CL.out.2.2.1)
              have p3 := (RB.out.cell (p := ⟨bl, ol + q * 5 + 3, none⟩) (show bl < w1.heap.size by omega)).trans ((WB.out.cell (p := ⟨bl, ol + q * 5 + 3, none⟩) (show bl < w.heap.size by omega)).trans CL.out.2.2.2.1)
              have p4 := (RB.out.cell (p := ⟨bl, ol + q * 5 + 4, none⟩) (show bl < w1.heap.size by omega)).trans ((WB.out.cell (p := ⟨bl, ol + q * 5 + 4, none⟩) (show bl < w.heap.size by omega)).trans CL.out.2.2.2.2)
              obtain ⟨ax, cx, wx, hr3, ho3, hb3, _⟩ := appendG ⟨x0, x1, x2, x3, x4⟩ HM.out RO.out RB.out.size (by omega) 30
              rw [HE.out, ← ST.out] at ho3
              have R3 := Lib.hid hr3
              have RO := Lib.hid ho3
              have RB := Lib.hid (RB.out.trans hb3)
              have hl := HL.out
              clear hr3 ho3 hb3
              go_wp2_with (at_builtin; refine Lib.wpList_append_run _ rfl _ _ _ _ rfl _ _ rfl rfl _ _ R3.out ?_)
              go_roundw
              case rel => exact ⟨q + 1, ax, cx, by omega, by go_num, by first | rfl | rw [hl], by (try rw [hl] at RO); exact owns_less RO.out hsz1, WB.out.trans (RB.out.mono hsz1)⟩
              case measure => simp [intOf]; omega
      · obtain rfl : k = l.length := by omega
        have FIN : Hid (FreshR gC 53 5 (sortTo l l.length) w (.returned (.slice a3 l.length c3)) wr) := Lib.hid (by
          have e := sortTo_len (l := l) (Nat.le_refl l.length)
          exact ⟨a3, c3, by rw [e], by rw [e]; exact ho, hb⟩)
        clear ho
        go_wp2
        exact bodyPost_ret (v := .slice a3 l.length c3) (by simp [results, Try.results39, go_sem]) rfl FIN.out
  · rw [show srtJ l = [] from if_neg h16]
    have hd : (1600 : Int) < (l.length : Int) := by omega
    go_enter Try.func39, Try.ntmps39
    go_wp2
    exact bodyPost_ret (v := .slice none 0 0) (by simp [results, Try.results39, go_sem]) rfl ⟨none, 0, rfl, World.ownsRow_nil _ _ _ _, B0.out⟩
end Go.Proofs.Ytneolndbhklboaa
