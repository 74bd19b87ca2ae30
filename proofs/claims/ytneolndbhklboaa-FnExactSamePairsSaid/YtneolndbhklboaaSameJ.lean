/- Chapter 12: SamePairs on both sides. (made by tools/mksamej.py) -/
import Derived.Test.YtneolndbhklboaaSortJ
import Derived.Test.YtneolndbhklboaaSortJS
import Derived.Deep.QuietTactic
import Derived.BigQuiet
namespace Go.Proofs.Ytneolndbhklboaa
open Go.RowKit
/-- The first k are alike. -/
def alike (x y : List Pr) (k : Nat) : Prop := ∀ i, i < k → gel x i = gel y i
theorem alike_all {x y : List Pr} (hl : x.length = y.length) (h : alike x y x.length) : x = y := by
  apply List.ext_getElem hl
  intro i h1 h2
  have := h i h1
  rwa [show gel x i = x[i] from rel_lt gD h1, show gel y i = y[i] from rel_lt gD h2] at this
theorem srtJ_len {l : List Pr} (h : l.length ≤ 1600) : (srtJ l).length = l.length := by unfold srtJ; rw [if_pos h, srtP_len]
theorem sameJ_no {a b : List Pr} (h : ¬ (a.length = b.length ∧ a.length ≤ 1600)) : sameJ a b = false := by
  unfold sameJ
  by_cases h1 : a.length = b.length
  · have h2 : ¬ a.length ≤ 1600 := fun h2 => h ⟨h1, h2⟩
    simp [h1, show ¬ b.length ≤ 1600 from h1 ▸ h2]
  · simp [h1]
theorem sameJ_is {a b : List Pr} (h1 : a.length = b.length) (h2 : a.length ≤ 1600) : sameJ a b = decide (srtJ a = srtJ b) := by
  unfold sameJ srtJ
  rw [if_pos h2, if_pos (h1 ▸ h2)]
  simp [h1, show b.length ≤ 1600 from h1 ▸ h2]
theorem sameJ_not {a b : List Pr} {i : Nat} (h1 : a.length = b.length) (h2 : a.length ≤ 1600) (h : gel (srtJ a) i ≠ gel (srtJ b) i) : sameJ a b = false := by
  rw [sameJ_is h1 h2]
  exact decide_eq_false (fun e => h (by rw [e]))
theorem sameJ_yes {a b : List Pr} (h1 : a.length = b.length) (h2 : a.length ≤ 1600) (h : alike (srtJ a) (srtJ b) (srtJ a).length) : sameJ a b = true := by
  rw [sameJ_is h1 h2]
  exact decide_eq_true (alike_all (by rw [srtJ_len h2, srtJ_len (h1 ▸ h2), h1]) h)

set_option maxHeartbeats 4000000 in
set_option maxRecDepth 100000 in
theorem iSame_any (a1 a2 : Option Addr) (n1 n2 c1 c2 : Nat) (l r : List Pr) (hi : Nat) (w : World) (h1 : Prs w hi a1 c1 l) (h2 : Prs w hi a2 c2 r) (hn1 : n1 = l.length) (hn2 : n2 = r.length) (hB : hi ≤ w.heap.size) (hle : l.length ≤ 1048576) (hle2 : r.length ≤ 1048576) :
    Calls Try.prog 18 #[.slice a1 n1 c1, .slice a2 n2 c2] w fun e w' => e = .returned (.bool (sameJ l r)) ∧ Below w.heap.size w w' := by
  subst hn1
  subst hn2
  have S2 := Lib.hid (iSort_any a2 r.length c2 r hi w h2 rfl hB hle2)
  have S1 := Lib.hid (fun (W : World) (hb : Below w.heap.size w W) => iSort_any a1 l.length c1 l hi W (h1.below (hb.mono hB)) rfl (Nat.le_trans hB hb.size) hle)
  clear h1 h2
  by_cases hl : l.length = r.length
  · by_cases h16 : l.length ≤ 1600
    · have g1 : ¬ (1600 : Int) < (r.length : Int) := by omega
      have e1 := srtJ_len h16
      have e2 := srtJ_len (l := r) (by omega)
      have HNO := Lib.hid (fun (i : Nat) h => sameJ_not (i := i) hl h16 h)
      have HYES := Lib.hid (fun h => sameJ_yes hl h16 h)
      rw [hl] at S1 e1 ⊢
      generalize sameJ l r = V at HNO HYES ⊢
      generalize srtJ l = L at S1 e1 HNO HYES
      generalize srtJ r = R at S2 e2 HNO HYES
      obtain ⟨N, hN⟩ : ∃ N, N = r.length := ⟨_, rfl⟩
      rw [← hN] at S1 S2 e1 e2 g1 ⊢
      clear hN hl h16
      have E1 := Lib.hid e1
      have E2 := Lib.hid e2
      clear e1 e2
      have hrr : ((N : Int) != (N : Int)) = false := by simp
      go_enter Try.func18, Try.ntmps18
      go_wp2_with fail
      refine S2.out.mono ?_
      rintro e w1 ⟨a3, c3, rfl, ho, hb⟩
      have B1 := Lib.hid hb
      have P1 := Lib.hid (Prs.of_own ho)
      clear ho hb
      rw [E2.out]
      go_wp2_with fail
      refine (S1.out _ B1.out).mono ?_
      rintro e w2 ⟨a4, c4, rfl, ho, hb⟩
      have P2 := Lib.hid (Prs.of_own ho)
      have P1 := Lib.hid (P1.out.below hb)
      have B2 := Lib.hid (B1.out.trans (hb.mono B1.out.size))
      have hs12 := hb.size
      have q1 := P1.out.cap
      have q2 := P1.out.big
      rw [E2.out] at q1
      clear ho hb
      rw [E1.out]
      go_wp2
      go_loopw [23] (fun i wr => ∃ k : Nat, k ≤ N ∧ i = .int .i64 (k : Int) ∧ alike L R k ∧ Below w2.heap.size w2 wr) (fun i _ => N - (intOf i).toNat)
      case atStart => exact ⟨0, Nat.zero_le _, rfl, fun i hi => by omega, Below.refl _ _⟩
      case round =>
        obtain ⟨k, hk, rfl, hal, hb⟩ := hrel
        have AL := Lib.hid hal
        have RB := Lib.hid hb
        have hsr := hb.size
        clear hal hb
        by_cases hlt : k < N
        · obtain ⟨b4, o4, rfl, hb4, hc4⟩ := Prs.six P2.out (by rw [E1.out]; omega)
          obtain ⟨b3, o3, rfl, hb3, hc3⟩ := Prs.six P1.out (by rw [E2.out]; omega)
          have hlt' : (k : Int) < (N : Int) := by omega
          have hnn : 0 ≤ (k : Int) := by omega
          have CL := hc4 k (by rw [E1.out]; exact hlt)
          have CR := hc3 k (by rw [E2.out]; exact hlt)
          have EX := Lib.hid (HNO.out k)
          have EY : Hid (gel L k = gel R k → alike L R (k + 1)) := Lib.hid (fun h i hi => by
            rcases Nat.lt_or_ge i k with h' | h'
            · exact AL.out i h'
            · obtain rfl : i = k := by omega
              exact h)
          clear hc4 hc3
          generalize gel L k = X at CL EX EY
          generalize gel R k = Y at CR EX EY
          obtain ⟨x0, x1, x2, x3, x4⟩ := X
          obtain ⟨y0, y1, y2, y3, y4⟩ := Y
          simp only at CL CR
          have bA := (Below.refl wr.heap.size wr).alloc (Nat.le_refl _) (.cells #[.int .i64 x0, .int .i64 x1, .int .i64 x2, .int .i64 x3, .int .i64 x4] 53)
          have RA := Lib.hid (RB.out.trans (bA.mono hsr))
          have GL : ∀ z, wr.cell? ⟨b4, z, none⟩ = w2.cell? ⟨b4, z, none⟩ := fun z => RB.out.cell (p := ⟨b4, z, none⟩) hb4
          have GR : ∀ z, (wr.alloc (.cells #[.int .i64 x0, .int .i64 x1, .int .i64 x2, .int .i64 x3, .int .i64 x4] 53)).cell? ⟨b3, z, none⟩ = w2.cell? ⟨b3, z, none⟩ := fun z => RA.out.cell (p := ⟨b3, z, none⟩) (show b3 < w2.heap.size by omega)
          obtain ⟨p0, p1, p2, p3, p4⟩ := CL
          obtain ⟨r0, r1, r2, r3, r4⟩ := CR
          rw [← GL] at p0 p1 p2 p3 p4
          rw [← GR] at r0 r1 r2 r3 r4
          clear GL GR bA
          have hgd : Try.prog.eqGuardType Try.prog.depth 53 = false := by kernel_rfl
          by_cases e0 : x0 = y0
          · subst e0
            by_cases e1 : x1 = y1
            · subst e1
              by_cases e2 : x2 = y2
              · subst e2
                by_cases e3 : x3 = y3
                · subst e3
                  by_cases e4 : x4 = y4
                  · subst e4
                    have HA := Lib.hid (EY.out rfl)
                    clear EX EY
                    go_wp2_with fail
                    go_quiet (fail)
                    go_wp2
                    go_roundw
                    case rel => exact ⟨k + 1, by omega, by go_num, HA.out, below_drewN RA.out _⟩
                    case measure => simp [intOf]; omega
                  · have HX := Lib.hid (EX.out (fun e => by simp at e; omega))
                    clear EX EY
                    go_wp2_with fail
                    go_quiet (fail)
                    go_wp2
                    go_ret
                    exact ⟨by rw [HX.out]; rfl, B2.out.trans ((below_drewN RA.out _).mono B2.out.size)⟩
                · have HX := Lib.hid (EX.out (fun e => by simp at e; omega))
                  clear EX EY
                  go_wp2_with fail
                  go_quiet (fail)
                  go_wp2
                  go_ret
                  exact ⟨by rw [HX.out]; rfl, B2.out.trans ((below_drewN RA.out _).mono B2.out.size)⟩
              · have HX := Lib.hid (EX.out (fun e => by simp at e; omega))
                clear EX EY
                go_wp2_with fail
                go_quiet (fail)
                go_wp2
                go_ret
                exact ⟨by rw [HX.out]; rfl, B2.out.trans ((below_drewN RA.out _).mono B2.out.size)⟩
            · have HX := Lib.hid (EX.out (fun e => by simp at e; omega))
              clear EX EY
              go_wp2_with fail
              go_quiet (fail)
              go_wp2
              go_ret
              exact ⟨by rw [HX.out]; rfl, B2.out.trans ((below_drewN RA.out _).mono B2.out.size)⟩
          · have HX := Lib.hid (EX.out (fun e => by simp at e; omega))
            clear EX EY
            go_wp2_with fail
            go_quiet (fail)
            go_wp2
            go_ret
            exact ⟨by rw [HX.out]; rfl, B2.out.trans ((below_drewN RA.out _).mono B2.out.size)⟩
        · obtain rfl : k = N := by omega
          have HX := Lib.hid (HYES.out (by rw [E1.out]; exact AL.out))
          go_wp2
          go_ret
          exact ⟨by rw [HX.out]; rfl, B2.out.trans (RB.out.mono B2.out.size)⟩
    · rw [sameJ_no (fun h => h16 h.2)]
      have g1 : (1600 : Int) < (l.length : Int) := by omega
      have g2 : ((l.length : Int) != (r.length : Int)) = false := by simp [hl]
      go_enter Try.func18, Try.ntmps18
      go_wp2
      go_ret
      exact ⟨by simp [go_sem], Below.refl _ _⟩
  · rw [sameJ_no (fun h => hl h.1)]
    have g2 : ((l.length : Int) != (r.length : Int)) = true := by simp; omega
    go_enter Try.func18, Try.ntmps18
    go_wp2
    go_ret
    exact ⟨by simp [go_sem], Below.refl _ _⟩

set_option maxHeartbeats 4000000 in
set_option maxRecDepth 100000 in
theorem sSame_any (a1 a2 : Option Addr) (n1 n2 c1 c2 : Nat) (l r : List Pr) (hi : Nat) (w : World) (h1 : Prs w hi a1 c1 l) (h2 : Prs w hi a2 c2 r) (hn1 : n1 = l.length) (hn2 : n2 = r.length) (hB : hi ≤ w.heap.size) :
    Calls Try.prog 42 #[.slice a1 n1 c1, .slice a2 n2 c2] w fun e w' => e = .returned (.bool (sameJ l r)) ∧ Below w.heap.size w w' := by
  subst hn1
  subst hn2
  have S1 := Lib.hid (sSort_any a1 l.length c1 l hi w h1 rfl hB)
  have S2 := Lib.hid (fun (W : World) (hb : Below w.heap.size w W) => sSort_any a2 r.length c2 r hi W (h2.below (hb.mono hB)) rfl (Nat.le_trans hB hb.size))
  have z1 : (srtJ l).length = if l.length ≤ 1600 then l.length else 0 := by unfold srtJ; split <;> simp [srtP_len]
  clear h1 h2
  by_cases hl : l.length = r.length
  · by_cases h16 : l.length ≤ 1600
    · have e1 := srtJ_len h16
      have e2 := srtJ_len (l := r) (by omega)
      have HNO := Lib.hid (fun (i : Nat) h => sameJ_not (i := i) hl h16 h)
      have HYES := Lib.hid (fun h => sameJ_yes hl h16 h)
      rw [hl] at S1 e1 ⊢
      clear z1
      generalize sameJ l r = V at HNO HYES ⊢
      generalize srtJ l = L at S1 e1 HNO HYES
      generalize srtJ r = R at S2 e2 HNO HYES
      obtain ⟨N, hN⟩ : ∃ N, N = r.length := ⟨_, rfl⟩
      rw [← hN] at S1 S2 e1 e2 ⊢
      have hrr : ((N : Int) != (N : Int)) = false := by simp
      have hN6 : N ≤ 1600 := by omega
      clear hN hl h16
      have E1 := Lib.hid e1
      have E2 := Lib.hid e2
      clear e1 e2
      go_enter Try.func42, Try.ntmps42
      go_wp2_with fail
      refine S1.out.mono ?_
      rintro e w1 ⟨a4, c4, rfl, ho, hb⟩
      have B1 := Lib.hid hb
      have P2 := Lib.hid (Prs.of_own ho)
      clear ho hb
      rw [E1.out]
      go_wp2_with fail
      refine (S2.out _ B1.out).mono ?_
      rintro e w2 ⟨a3, c3, rfl, ho, hb⟩
      have P1 := Lib.hid (Prs.of_own ho)
      have P2 := Lib.hid (P2.out.below hb)
      have B2 := Lib.hid (B1.out.trans (hb.mono B1.out.size))
      have hs12 := hb.size
      clear ho hb
      rw [E2.out]
      go_wp2
      go_loopw [7] (fun i wr => ∃ k : Nat, k ≤ N ∧ i = .int .i64 (k : Int) ∧ alike L R k ∧ Below w2.heap.size w2 wr) (fun i _ => N - (intOf i).toNat)
      case atStart => exact ⟨0, Nat.zero_le _, rfl, fun i hi => by omega, Below.refl _ _⟩
      case round =>
        obtain ⟨k, hk, rfl, hal, hb⟩ := hrel
        have AL := Lib.hid hal
        have RB := Lib.hid hb
        have hsr := hb.size
        clear hal hb
        by_cases hlt : k < N
        · obtain ⟨b4, o4, rfl, hb4, hc4⟩ := Prs.six P2.out (by rw [E1.out]; omega)
          obtain ⟨b3, o3, rfl, hb3, hc3⟩ := Prs.six P1.out (by rw [E2.out]; omega)
          have hlt' : (k : Int) < (N : Int) := by omega
          have hnn : 0 ≤ (k : Int) := by omega
          have CL := hc4 k (by rw [E1.out]; exact hlt)
          have CR := hc3 k (by rw [E2.out]; exact hlt)
          have EX := Lib.hid (HNO.out k)
          have EY : Hid (gel L k = gel R k → alike L R (k + 1)) := Lib.hid (fun h i hi => by
            rcases Nat.lt_or_ge i k with h' | h'
            · exact AL.out i h'
            · obtain rfl : i = k := by omega
              exact h)
          clear hc4 hc3
          generalize gel L k = X at CL EX EY
          generalize gel R k = Y at CR EX EY
          obtain ⟨x0, x1, x2, x3, x4⟩ := X
          obtain ⟨y0, y1, y2, y3, y4⟩ := Y
          simp only at CL CR
          have GL : ∀ z, wr.cell? ⟨b4, z, none⟩ = w2.cell? ⟨b4, z, none⟩ := fun z => RB.out.cell (p := ⟨b4, z, none⟩) (show b4 < w2.heap.size by omega)
          have GR : ∀ z, wr.cell? ⟨b3, z, none⟩ = w2.cell? ⟨b3, z, none⟩ := fun z => RB.out.cell (p := ⟨b3, z, none⟩) (show b3 < w2.heap.size by omega)
          obtain ⟨p0, p1, p2, p3, p4⟩ := CL
          obtain ⟨r0, r1, r2, r3, r4⟩ := CR
          rw [← GL] at p0 p1 p2 p3 p4
          rw [← GR] at r0 r1 r2 r3 r4
          clear GL GR
          have hgd : Try.prog.eqGuardType Try.prog.depth 53 = false := by kernel_rfl
          by_cases e0 : x0 = y0
          · subst e0
            by_cases e1 : x1 = y1
            · subst e1
              by_cases e2 : x2 = y2
              · subst e2
                by_cases e3 : x3 = y3
                · subst e3
                  by_cases e4 : x4 = y4
                  · subst e4
                    have HA := Lib.hid (EY.out rfl)
                    clear EX EY
                    go_wp2_with fail
                    go_quiet (fail)
                    go_wp2
                    go_roundw
                    case rel => exact ⟨k + 1, by omega, by go_num, HA.out, below_drewN RB.out _⟩
                    case measure => simp [intOf]; omega
                  · have HX := Lib.hid (EX.out (fun e => by simp at e; omega))
                    clear EX EY
                    go_wp2_with fail
                    go_quiet (fail)
                    go_wp2
                    go_ret
                    exact ⟨by rw [HX.out]; rfl, B2.out.trans ((below_drewN RB.out _).mono B2.out.size)⟩
                · have HX := Lib.hid (EX.out (fun e => by simp at e; omega))
                  clear EX EY
                  go_wp2_with fail
                  go_quiet (fail)
                  go_wp2
                  go_ret
                  exact ⟨by rw [HX.out]; rfl, B2.out.trans ((below_drewN RB.out _).mono B2.out.size)⟩
              · have HX := Lib.hid (EX.out (fun e => by simp at e; omega))
                clear EX EY
                go_wp2_with fail
                go_quiet (fail)
                go_wp2
                go_ret
                exact ⟨by rw [HX.out]; rfl, B2.out.trans ((below_drewN RB.out _).mono B2.out.size)⟩
            · have HX := Lib.hid (EX.out (fun e => by simp at e; omega))
              clear EX EY
              go_wp2_with fail
              go_quiet (fail)
              go_wp2
              go_ret
              exact ⟨by rw [HX.out]; rfl, B2.out.trans ((below_drewN RB.out _).mono B2.out.size)⟩
          · have HX := Lib.hid (EX.out (fun e => by simp at e; omega))
            clear EX EY
            go_wp2_with fail
            go_quiet (fail)
            go_wp2
            go_ret
            exact ⟨by rw [HX.out]; rfl, B2.out.trans ((below_drewN RB.out _).mono B2.out.size)⟩
        · obtain rfl : k = N := by omega
          have HX := Lib.hid (HYES.out (by rw [E1.out]; exact AL.out))
          go_wp2
          go_ret
          exact ⟨by rw [HX.out]; rfl, B2.out.trans (RB.out.mono B2.out.size)⟩
    · rw [sameJ_no (fun h => h16 h.2)]
      rw [if_neg h16] at z1
      have g2 : ((l.length : Int) != (r.length : Int)) = false := by simp [hl]
      have g3 : ((0 : Int) != (l.length : Int)) = true := by simp; omega
      generalize srtJ l = L at S1 z1
      generalize srtJ r = R at S2
      have Z1 := Lib.hid z1
      clear z1 hl
      go_enter Try.func42, Try.ntmps42
      go_wp2_with fail
      refine S1.out.mono ?_
      rintro e w1 ⟨a4, c4, rfl, ho, hb⟩
      have B1 := Lib.hid hb
      clear ho hb
      rw [Z1.out]
      go_wp2_with fail
      refine (S2.out _ B1.out).mono ?_
      rintro e w2 ⟨a3, c3, rfl, ho, hb⟩
      have B2 := Lib.hid (B1.out.trans (hb.mono B1.out.size))
      clear ho hb
      go_wp2
      go_ret
      exact ⟨by simp [go_sem]; try omega, B2.out⟩
  · rw [sameJ_no (fun h => hl h.1)]
    have g2 : ((l.length : Int) != (r.length : Int)) = true := by simp; omega
    clear z1
    generalize srtJ l = L at S1
    generalize srtJ r = R at S2
    go_enter Try.func42, Try.ntmps42
    go_wp2_with fail
    refine S1.out.mono ?_
    rintro e w1 ⟨a4, c4, rfl, ho, hb⟩
    have B1 := Lib.hid hb
    clear ho hb
    go_wp2_with fail
    refine (S2.out _ B1.out).mono ?_
    rintro e w2 ⟨a3, c3, rfl, ho, hb⟩
    have B2 := Lib.hid (B1.out.trans (hb.mono B1.out.size))
    clear ho hb
    go_wp2
    go_ret
    exact ⟨by simp [go_sem]; try omega, B2.out⟩

end Go.Proofs.Ytneolndbhklboaa
