/- Chapter 12, spec's side: Unmatched. (made by tools/mkjns4.py) -/
import Derived.Test.YtneolndbhklboaaPlainJn4
import Derived.Test.YtneolndbhklboaaJn2
import Derived.Test.YtneolndbhklboaaAppI
import Derived.Deep.QuietTactic
import Derived.BigQuiet
import Derived.StillTailTactics
namespace Go.Proofs.Ytneolndbhklboaa
open Go.RowKit
set_option maxHeartbeats 2000000 in
set_option maxRecDepth 100000 in
theorem sUn_any (a1 a2 : Option Addr) (n1 n2 c1 c2 : Nat) (L R : List Fm) (by_ : Int) (hi : Nat) (w : World) (h1 : Fms w hi a1 c1 L) (h2 : Fms w hi a2 c2 R) (hn1 : n1 = L.length) (hn2 : n2 = R.length) (hB : hi ≤ w.heap.size) :
    Calls Try.prog 30 #[.slice a1 n1 c1, .slice a2 n2 c2, .int .i64 by_] w (FreshNums 3 .i64 (umJ L R by_) w) := by
  have hq1 := h1.cap
  have hq2 := h1.big
  have hq3 := h2.cap
  have hq4 := h2.big
  have b0 := (Below.refl w.heap.size w).alloc (Nat.le_refl _) (.cells #[] 3)
  have SJ := Lib.hid (sJoin_any a1 a2 n1 n2 c1 c2 L R by_ hi (w.alloc (.cells #[] 3)) (h1.below (b0.mono hB)) (h2.below (b0.mono hB)) hn1 hn2 (Nat.le_trans hB b0.size))
  have B0 := Lib.hid b0
  have O0 : Hid ((w.alloc (.cells #[] 3)).ownsRow w.heap.size 3 1 (.slice (some ⟨w.heap.size, 0, none⟩) 0 0) 0 (([] : List Int).map (Value.int .i64))) := Lib.hid (World.ownsRow_lit (e := 3) (size := 1) w #[] 0 (Nat.le_refl _) (by unfold maxLen; omega) (by simp))
  have H1 := Lib.hid h1
  have H2 := Lib.hid h2
  subst hn1
  subst hn2
  clear h1 h2 b0
  by_cases hok : evsJ L = true ∧ evsJ R = true ∧ inB by_ 0 1000000 = true
  · rw [joinJ_yes hok.1 hok.2.1 hok.2.2] at SJ
    rw [umJ_yes hok.1 hok.2.1 hok.2.2]
    have HLR := Lib.hid hok
    have h40 := (evsJ_bd hok.1).1
    clear hok
    go_enter Try.func30, Try.ntmps30
    go_wp2_with fail
    refine SJ.out.mono ?_
    rintro e w2 ⟨a5, c5, rfl, _, hb⟩
    have O2 := Lib.hid (owns_below O0.out hb)
    have B2 := Lib.hid (B0.out.trans (hb.mono B0.out.size))
    clear hb SJ O0 B0
    go_wp2
    go_loopw [7, 10] (fun ls i wr => ∃ (k m : Nat) (a3 : Option Addr) (c3 : Nat), k ≤ L.length ∧ i = .int .i64 (k : Int) ∧ ls = .slice a3 m c3 ∧ m = (umTo L R by_ k).length ∧ wr.ownsRow w.heap.size 3 1 (.slice a3 m c3) m ((umTo L R by_ k).map (Value.int .i64)) ∧ Below w.heap.size w wr) (fun _ i _ => L.length - (intOf i).toNat)
    case atStart => exact ⟨0, 0, _, 0, Nat.zero_le _, rfl, rfl, rfl, O2.out, B2.out⟩
    case round =>
      obtain ⟨k, m, a3, c3, hk, rfl, rfl, hm, ho, hb⟩ := hrel
      have RO := Lib.hid ho
      have RB := Lib.hid hb
      have HM := Lib.hid hm
      have hsz3 := hb.size
      have hml : m ≤ k := by rw [hm]; exact umTo_len
      clear ho hb hm
      by_cases hlt : k < L.length
      · have FW := Lib.hid (H1.out.below (RB.out.mono hB))
        obtain ⟨bl, ol, rfl, hbl, hcl⟩ := Fms.six H1.out (by omega)
        have hlt' : (k : Int) < (L.length : Int) := by omega
        have hnn : 0 ≤ (k : Int) := by omega
        have CL := Lib.hid (hcl k hlt)
        have EV := Lib.hid (evJ_bd ((evsJ_bd HLR.out.1).2 k hlt)).2.1
        have UY := Lib.hid (umTo_yes (L := L) (R := R) (by_ := by_) (k := k))
        have UN := Lib.hid (umTo_no (L := L) (R := R) (by_ := by_) (k := k))
        clear hcl FW
        generalize qel L k = X at CL EV UY UN
        obtain ⟨x0, x1, x2, x3⟩ := X
        simp only at CL
        go_wp2
        go_loopw [11, 12] (fun mt j w2 => ∃ q : Nat, q ≤ R.length ∧ j = .int .i64 (q : Int) ∧ mt = .bool (metB ⟨x0, x1, x2, x3⟩ R by_ q) ∧ w2.ownsRow w.heap.size 3 1 (.slice a3 m c3) m ((umTo L R by_ k).map (Value.int .i64)) ∧ Below w.heap.size w w2) (fun _ j _ => R.length - (intOf j).toNat)
        case atStart => exact ⟨0, Nat.zero_le _, rfl, rfl, RO.out, RB.out⟩
        case round =>
          obtain ⟨q, hq, rfl, rfl, ho, hb⟩ := hrel
          have RO := Lib.hid ho
          have RB := Lib.hid hb
          have hsz4 := hb.size
          clear ho hb
          by_cases hlt2 : q < R.length
          · have hlt2' : (q : Int) < (R.length : Int) := by omega
            have hnn2 : 0 ≤ (q : Int) := by omega
            have MS := Lib.hid (metB_step (A := ⟨x0, x1, x2, x3⟩) (by_ := by_) hlt2)
            obtain ⟨br, or_, rfl, hbr, hcr⟩ := Fms.six H2.out (by omega)
            have CR := Lib.hid (hcr q hlt2)
            have EV2 := Lib.hid (evJ_bd ((evsJ_bd HLR.out.2.1).2 q hlt2)).2.1
            clear hcr
            generalize qel R q = Y at CR EV2 MS
            obtain ⟨y0, y1, y2, y3⟩ := Y
            simp only at CR
            cases hmt : metB ⟨x0, x1, x2, x3⟩ R by_ q with
            | true =>
              rw [hmt] at MS
              have HX : Hid (metB ⟨x0, x1, x2, x3⟩ R by_ (q + 1) = true) := Lib.hid (by rw [MS.out]; rfl)
              clear MS hmt
              go_wp2_with fail
              go_quiet (fail)
              go_wp2
              go_roundw
              case rel => exact ⟨q + 1, by omega, by go_num, by rw [HX.out], RO.out, below_drewN RB.out _⟩
              case measure => simp [intOf]; omega
            | false =>
              rw [hmt] at MS
              have HX : Hid (metB ⟨x0, x1, x2, x3⟩ R by_ (q + 1) = meetB ⟨x0, x1, x2, x3⟩ ⟨y0, y1, y2, y3⟩ by_) := Lib.hid (by rw [MS.out]; rfl)
              clear MS hmt
              have CM := Lib.hid (fun W => sMeet_x x0 x1 x2 x3 y0 y1 y2 y3 by_ W EV.out EV2.out)
              have g1 : ∀ z, wr.cell? ⟨bl, z, none⟩ = w.cell? ⟨bl, z, none⟩ := fun z => RB.out.cell (p := ⟨bl, z, none⟩) (show bl < w.heap.size by omega)
              have g2 : ∀ z, wr.cell? ⟨br, z, none⟩ = w.cell? ⟨br, z, none⟩ := fun z => RB.out.cell (p := ⟨br, z, none⟩) (show br < w.heap.size by omega)
              obtain ⟨p0, p1, p2, p3⟩ := CL.out
              obtain ⟨r0, r1, r2, r3⟩ := CR.out
              rw [← g1] at p0 p1 p2 p3
              rw [← g2] at r0 r1 r2 r3
              clear g1 g2
              go_wp2_with fail
              go_still_tail 11, (by kernel_rfl)
              change wpList _ _ _ _ _ wr.drew
              clear p0 p1 p2 p3 r0 r1 r2 r3
              have RO := Lib.hid (show wr.drew.ownsRow _ _ _ _ _ _ from RO.out)
              have RB := Lib.hid RB.out.drew
              generalize wr.drew = w7 at RO RB ⊢
              go_wp2_with fail
              refine (CM.out _).mono ?_
              rintro e w8 ⟨rfl, hb⟩
              have RO := Lib.hid (owns_below RO.out hb)
              have RB := Lib.hid (RB.out.trans (hb.mono RB.out.size))
              clear hb
              go_wp2
              go_roundw
              case rel => exact ⟨q + 1, by omega, by go_num, by rw [HX.out], RO.out, RB.out⟩
              case measure => simp [intOf]; omega
          · obtain rfl : q = R.length := by omega
            cases hmt : metB ⟨x0, x1, x2, x3⟩ R by_ R.length with
            | true =>
              have HE := Lib.hid (UN.out hmt)
              clear UY UN hmt
              go_wp2
              go_roundw
              case rel => exact ⟨k + 1, m, a3, c3, by omega, by go_num, rfl, by rw [HE.out]; exact HM.out, by rw [HE.out]; exact RO.out, RB.out⟩
              case measure => simp [intOf]; omega
            | false =>
              have HE := Lib.hid (UY.out hmt)
              clear UY UN hmt
              obtain ⟨a6, c6, w6, hr3, ho3, hb3, _⟩ := appendI (k : Int) HM.out RO.out hsz4 (by omega) 31
              have R3 := Lib.hid hr3
              have RO := Lib.hid ho3
              have RB := Lib.hid (RB.out.trans hb3)
              clear hr3 ho3 hb3
              go_wp2_with (at_builtin; refine Lib.wpList_append_run _ rfl _ _ _ _ rfl _ _ rfl rfl _ _ R3.out ?_)
              go_roundw
              case rel => exact ⟨k + 1, m + 1, a6, c6, by omega, by go_num, rfl, by rw [HE.out, List.length_append, ← HM.out]; rfl, by rw [HE.out]; exact RO.out, RB.out⟩
              case measure => simp [intOf]; omega
      · obtain rfl : k = L.length := by omega
        have FIN : Hid (FreshNums 3 .i64 (umTo L R by_ L.length) w (.returned (.slice a3 m c3)) wr) := Lib.hid (by
          have hm2 := HM.out
          subst hm2
          exact ⟨a3, c3, rfl, RO.out, RB.out⟩)
        go_wp2
        exact bodyPost_ret (v := .slice a3 m c3) (by simp [results, Try.results30, go_sem]) rfl FIN.out
  · have hj : joinJ L R by_ = ([], false) := if_neg hok
    rw [hj] at SJ
    rw [show umJ L R by_ = [] from if_neg hok]
    clear hok hj
    go_enter Try.func30, Try.ntmps30
    go_wp2_with fail
    refine SJ.out.mono ?_
    rintro e w2 ⟨a5, c5, rfl, _, hb⟩
    have B2 := Lib.hid (B0.out.trans (hb.mono B0.out.size))
    clear hb
    go_wp2
    exact bodyPost_ret (v := .slice none 0 0) (by simp [results, Try.results30, go_sem]) rfl ⟨none, 0, rfl, World.ownsRow_nil _ _ _ _, B2.out⟩
end Go.Proofs.Ytneolndbhklboaa
