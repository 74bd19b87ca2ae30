/- slices.symMergeCmpFunc over aggs, where the first run is one agg. (made by tools/mkstab.py) -/
import Derived.Test.YtchbmnpajnlijaaStab4
namespace Go.Proofs.Ytchbmnpajnlijaa
open Go.RowKit Stab
set_option maxHeartbeats 8000000 in
set_option maxRecDepth 100000 in
theorem sym_front (g c lo n a m b : Nat) (P Y S : List Ag) (x : Ag) (w : World) (h : w.ownsRow lo 86 6 (.slice (some ⟨g, 0, none⟩) n c) n (flatA (P ++ [x] ++ Y ++ S))) (ha : a = P.length) (hm : m = a + 1) (hb : b = m + Y.length) (hY0 : 0 < Y.length) (hY : Srt aheadA Y) (hbig : n ≤ 4294967296) :
    Calls Try.prog 135 #[(.slice (some ⟨g, 0, none⟩) n c), .int .i64 (a : Int), .int .i64 (m : Int), .int .i64 (b : Int), .func (.func 106) #[] #[]] w fun e w' => e = .returned (.tuple #[]) ∧ Merged 86 g c lo n P [x] Y S w w' := by
  have hn : n = P.length + 1 + Y.length + S.length := by rw [(Rt.start h).len]; simp; omega
  have hbn : b ≤ n := by omega
  have hmb : m < b := by omega
  have ham : a < m := by omega
  obtain ⟨L, hL⟩ : ∃ L, L = P ++ [x] ++ Y ++ S := ⟨_, rfl⟩
  have R0 := Lib.hid (Rt.start h)
  rw [← hL] at R0
  have HS := Lib.hid (srtOn_mid (P := P ++ [x]) (X := Y) (R := S) (L := L) hL hY (a := m) (b := b) (by simp; omega) (by simp; omega))
  have EA := Lib.hid (show ael L a = x by rw [hL, show P ++ [x] ++ Y ++ S = P ++ x :: (Y ++ S) by simp]; exact ael_app ha)
  have EL := Lib.hid hL
  have HA := Lib.hid ha
  have HM := Lib.hid hm
  have HB := Lib.hid hb
  have HYS := Lib.hid hY
  have P0 : Hid (Lo1 L x m b m b) := Lib.hid ⟨Nat.le_refl _, by omega, Nat.le_refl _, fun t t1 t2 => absurd t1 (by omega), fun t t1 t2 => absurd t1 (by omega)⟩
  have wm : IntKind.i64.wrap ((m : Int) - (a : Int)) = 1 := by rw [show (m : Int) - (a : Int) = 1 by omega]; exact IntWalk.i64_in _ (by omega)
  clear h ha hm hb hY hL hn hY0
  go_enter Try.func135, Try.ntmps135
  go_wp2
  go_loopw [10, 11] (fun vx vy wr => ∃ i j : Nat, vx = .int .i64 (i : Int) ∧ vy = .int .i64 (j : Int) ∧ Lo1 L x m b i j ∧ Rt 86 g c lo n w wr L) (fun vx vy _ => (intOf vy).toNat - (intOf vx).toNat)
  case atStart => exact ⟨m, b, rfl, rfl, P0.out, R0.out⟩
  case round =>
    obtain ⟨i, j, rfl, rfl, hp, hr⟩ := hrel
    have HP := Lib.hid hp
    have R := Lib.hid hr
    have b1 := hp.mi
    have b2 := hp.ij
    have b3 := hp.jb
    clear hp hr
    by_cases hij : i < j
    · obtain ⟨h, hh⟩ : ∃ h, h = (i + j) / 2 := ⟨_, rfl⟩
      have hsum : ((i : Int) + (j : Int)) / 2 = (h : Int) := by omega
      have hij' : (i : Int) < (j : Int) := by omega
      have hih : i ≤ h := by omega
      have hhj : h < j := by omega
      obtain ⟨h1, hh1⟩ : ∃ h1, h1 = h + 1 := ⟨_, rfl⟩
      have wh : IntKind.i64.wrap ((h : Int) + 1) = (h1 : Int) := by rw [show (h : Int) + 1 = (h1 : Int) by omega]; exact IntWalk.i64_in _ (by omega)
      clear hh
      cases hAB : aheadA (ael L h) (ael L a) with
      | true =>
        have NEW : Hid (∃ i2 j2 : Nat, Value.int .i64 (h1 : Int) = .int .i64 (i2 : Int) ∧ Value.int .i64 (j : Int) = .int .i64 (j2 : Int) ∧ Lo1 L x m b i2 j2) := Lib.hid ⟨h1, j, rfl, rfl, HP.out.up HS.out hih hhj (by rw [← EA.out]; exact hAB) |> fun s => hh1 ▸ s⟩
        have hms : j - h1 < j - i := by omega
        clear hh1
        have hLn := R.out.len
        have CE : Hid (∀ W9, Below wr.heap.size wr W9 → W9.cell? ⟨g, h * 6, none⟩ = some (.int .i64 (ael (L) h).win) ∧ W9.cell? ⟨g, h * 6 + 1, none⟩ = some (.int .i64 (ael (L) h).key) ∧ W9.cell? ⟨g, h * 6 + 2, none⟩ = some (.int .i64 (ael (L) h).cnt) ∧ W9.cell? ⟨g, h * 6 + 3, none⟩ = some (.int .i64 (ael (L) h).sum) ∧ W9.cell? ⟨g, h * 6 + 4, none⟩ = some (.int .i64 (ael (L) h).mn) ∧ W9.cell? ⟨g, h * 6 + 5, none⟩ = some (.int .i64 (ael (L) h).mx) ∧ W9.cell? ⟨g, a * 6, none⟩ = some (.int .i64 (ael (L) a).win) ∧ W9.cell? ⟨g, a * 6 + 1, none⟩ = some (.int .i64 (ael (L) a).key) ∧ W9.cell? ⟨g, a * 6 + 2, none⟩ = some (.int .i64 (ael (L) a).cnt) ∧ W9.cell? ⟨g, a * 6 + 3, none⟩ = some (.int .i64 (ael (L) a).sum) ∧ W9.cell? ⟨g, a * 6 + 4, none⟩ = some (.int .i64 (ael (L) a).mn) ∧ W9.cell? ⟨g, a * 6 + 5, none⟩ = some (.int .i64 (ael (L) a).mx)) := Lib.hid (fun W9 hb9 => by
          have o9 := (R.out.below hb9).own
          obtain ⟨p0, p1, p2, p3, p4, p5⟩ := own_ag o9 h (by omega)
          obtain ⟨r0, r1, r2, r3, r4, r5⟩ := own_ag o9 a (by omega)
          exact ⟨p0, p1, p2, p3, p4, p5, r0, r1, r2, r3, r4, r5⟩)
        have hX : cmpA (ael (L) h) (ael (L) a) < 0 := cmpA_neg.2 hAB
        have hi0 : (0 : Int) ≤ (h : Int) := by omega
        have hi1 : (h : Int) < (n : Int) := by omega
        have hj0 : (0 : Int) ≤ (a : Int) := by omega
        have hj1 : (a : Int) < (n : Int) := by omega
        clear hLn hAB
        generalize hX9 : ael (L) h = X9 at CE hX
        generalize hY9 : ael (L) a = Y9 at CE hX
        obtain ⟨u0, u1, u2, u3, u4, u5⟩ := X9
        obtain ⟨v0, v1, v2, v3, v4, v5⟩ := Y9
        simp only at CE hX
        have EX := Lib.hid hX9
        have EY := Lib.hid hY9
        clear hX9 hY9
        have CM := Lib.hid (fun W => cmpA_x u0 u1 u2 u3 u4 u5 v0 v1 v2 v3 v4 v5 W)
        generalize cmpA ⟨u0, u1, u2, u3, u4, u5⟩ ⟨v0, v1, v2, v3, v4, v5⟩ = z9 at CM hX
        have hXd : decide (z9 < 0) = true := decide_eq_true hX
        have hXn : (!decide (z9 < 0)) = false := by rw [hXd]; rfl
        obtain ⟨q0, q1, q2, q3, q4, q5, t0, t1, t2, t3, t4, t5⟩ := CE.out wr.drew ((Below.refl _ _).drew)
        go_wp2_with fail
        go_region_held3 (fun W => W.cell? ⟨g, h * 6, none⟩ = some (.int .i64 u0) ∧ W.cell? ⟨g, h * 6 + 1, none⟩ = some (.int .i64 u1) ∧ W.cell? ⟨g, h * 6 + 2, none⟩ = some (.int .i64 u2) ∧ W.cell? ⟨g, h * 6 + 3, none⟩ = some (.int .i64 u3) ∧ W.cell? ⟨g, h * 6 + 4, none⟩ = some (.int .i64 u4) ∧ W.cell? ⟨g, h * 6 + 5, none⟩ = some (.int .i64 u5) ∧ W.cell? ⟨g, a * 6, none⟩ = some (.int .i64 v0) ∧ W.cell? ⟨g, a * 6 + 1, none⟩ = some (.int .i64 v1) ∧ W.cell? ⟨g, a * 6 + 2, none⟩ = some (.int .i64 v2) ∧ W.cell? ⟨g, a * 6 + 3, none⟩ = some (.int .i64 v3) ∧ W.cell? ⟨g, a * 6 + 4, none⟩ = some (.int .i64 v4) ∧ W.cell? ⟨g, a * 6 + 5, none⟩ = some (.int .i64 v5))
          (exact ⟨q0, q1, q2, q3, q4, q5, t0, t1, t2, t3, t4, t5⟩)
          (first | (go_at_call 106; refine (CM.out _).mono ?_; rintro e w2 ⟨rfl, hb⟩; have R := Lib.hid (R.out.drew.below hb); obtain ⟨q0, q1, q2, q3, q4, q5, t0, t1, t2, t3, t4, t5⟩ := CE.out w2 ((Below.refl _ _).drew.trans hb); clear hb))
        all_goals
          clear q0 q1 q2 q3 q4 q5 t0 t1 t2 t3 t4 t5
          go_wp2
          go_roundw
          case rel => obtain ⟨i2, j2, e1, e2, hp2⟩ := NEW.out; exact ⟨i2, j2, e1, e2, hp2, R.out⟩
          case measure => simp [intOf]; omega
      | false =>
        have NEW : Hid (∃ i2 j2 : Nat, Value.int .i64 (i : Int) = .int .i64 (i2 : Int) ∧ Value.int .i64 (h : Int) = .int .i64 (j2 : Int) ∧ Lo1 L x m b i2 j2) := Lib.hid ⟨i, h, rfl, rfl, HP.out.down HS.out hih hhj (by rw [← EA.out]; exact hAB)⟩
        have hms : h - i < j - i := by omega
        clear hh1
        have hLn := R.out.len
        have CE : Hid (∀ W9, Below wr.heap.size wr W9 → W9.cell? ⟨g, h * 6, none⟩ = some (.int .i64 (ael (L) h).win) ∧ W9.cell? ⟨g, h * 6 + 1, none⟩ = some (.int .i64 (ael (L) h).key) ∧ W9.cell? ⟨g, h * 6 + 2, none⟩ = some (.int .i64 (ael (L) h).cnt) ∧ W9.cell? ⟨g, h * 6 + 3, none⟩ = some (.int .i64 (ael (L) h).sum) ∧ W9.cell? ⟨g, h * 6 + 4, none⟩ = some (.int .i64 (ael (L) h).mn) ∧ W9.cell? ⟨g, h * 6 + 5, none⟩ = some (.int .i64 (ael (L) h).mx) ∧ W9.cell? ⟨g, a * 6, none⟩ = some (.int .i64 (ael (L) a).win) ∧ W9.cell? ⟨g, a * 6 + 1, none⟩ = some (.int .i64 (ael (L) a).key) ∧ W9.cell? ⟨g, a * 6 + 2, none⟩ = some (.int .i64 (ael (L) a).cnt) ∧ W9.cell? ⟨g, a * 6 + 3, none⟩ = some (.int .i64 (ael (L) a).sum) ∧ W9.cell? ⟨g, a * 6 + 4, none⟩ = some (.int .i64 (ael (L) a).mn) ∧ W9.cell? ⟨g, a * 6 + 5, none⟩ = some (.int .i64 (ael (L) a).mx)) := Lib.hid (fun W9 hb9 => by
          have o9 := (R.out.below hb9).own
          obtain ⟨p0, p1, p2, p3, p4, p5⟩ := own_ag o9 h (by omega)
          obtain ⟨r0, r1, r2, r3, r4, r5⟩ := own_ag o9 a (by omega)
          exact ⟨p0, p1, p2, p3, p4, p5, r0, r1, r2, r3, r4, r5⟩)
        have hX : ¬ cmpA (ael (L) h) (ael (L) a) < 0 := fun h9 => by rw [cmpA_neg.1 h9] at hAB; cases hAB
        have hi0 : (0 : Int) ≤ (h : Int) := by omega
        have hi1 : (h : Int) < (n : Int) := by omega
        have hj0 : (0 : Int) ≤ (a : Int) := by omega
        have hj1 : (a : Int) < (n : Int) := by omega
        clear hLn hAB
        generalize hX9 : ael (L) h = X9 at CE hX
        generalize hY9 : ael (L) a = Y9 at CE hX
        obtain ⟨u0, u1, u2, u3, u4, u5⟩ := X9
        obtain ⟨v0, v1, v2, v3, v4, v5⟩ := Y9
        simp only at CE hX
        have EX := Lib.hid hX9
        have EY := Lib.hid hY9
        clear hX9 hY9
        have CM := Lib.hid (fun W => cmpA_x u0 u1 u2 u3 u4 u5 v0 v1 v2 v3 v4 v5 W)
        generalize cmpA ⟨u0, u1, u2, u3, u4, u5⟩ ⟨v0, v1, v2, v3, v4, v5⟩ = z9 at CM hX
        have hXd : decide (z9 < 0) = false := decide_eq_false hX
        have hXn : (!decide (z9 < 0)) = true := by rw [hXd]; rfl
        obtain ⟨q0, q1, q2, q3, q4, q5, t0, t1, t2, t3, t4, t5⟩ := CE.out wr.drew ((Below.refl _ _).drew)
        go_wp2_with fail
        go_region_held3 (fun W => W.cell? ⟨g, h * 6, none⟩ = some (.int .i64 u0) ∧ W.cell? ⟨g, h * 6 + 1, none⟩ = some (.int .i64 u1) ∧ W.cell? ⟨g, h * 6 + 2, none⟩ = some (.int .i64 u2) ∧ W.cell? ⟨g, h * 6 + 3, none⟩ = some (.int .i64 u3) ∧ W.cell? ⟨g, h * 6 + 4, none⟩ = some (.int .i64 u4) ∧ W.cell? ⟨g, h * 6 + 5, none⟩ = some (.int .i64 u5) ∧ W.cell? ⟨g, a * 6, none⟩ = some (.int .i64 v0) ∧ W.cell? ⟨g, a * 6 + 1, none⟩ = some (.int .i64 v1) ∧ W.cell? ⟨g, a * 6 + 2, none⟩ = some (.int .i64 v2) ∧ W.cell? ⟨g, a * 6 + 3, none⟩ = some (.int .i64 v3) ∧ W.cell? ⟨g, a * 6 + 4, none⟩ = some (.int .i64 v4) ∧ W.cell? ⟨g, a * 6 + 5, none⟩ = some (.int .i64 v5))
          (exact ⟨q0, q1, q2, q3, q4, q5, t0, t1, t2, t3, t4, t5⟩)
          (first | (go_at_call 106; refine (CM.out _).mono ?_; rintro e w2 ⟨rfl, hb⟩; have R := Lib.hid (R.out.drew.below hb); obtain ⟨q0, q1, q2, q3, q4, q5, t0, t1, t2, t3, t4, t5⟩ := CE.out w2 ((Below.refl _ _).drew.trans hb); clear hb))
        all_goals
          clear q0 q1 q2 q3 q4 q5 t0 t1 t2 t3 t4 t5
          go_wp2
          go_roundw
          case rel => obtain ⟨i2, j2, e1, e2, hp2⟩ := NEW.out; exact ⟨i2, j2, e1, e2, hp2, R.out⟩
          case measure => simp [intOf]; omega
    · obtain rfl : i = j := by omega
      have hij' : ¬ (i : Int) < (i : Int) := by omega
      obtain ⟨q, hq⟩ : ∃ q, q = i - m := ⟨_, rfl⟩
      obtain ⟨Y1, hY1⟩ : ∃ Y1, Y1 = Y.take q := ⟨_, rfl⟩
      obtain ⟨Y2, hY2⟩ : ∃ Y2, Y2 = Y.drop q := ⟨_, rfl⟩
      have hYY : Y1 ++ Y2 = Y := by rw [hY1, hY2]; exact List.take_append_drop _ _
      have hl1 : Y1.length = q := by rw [hY1, List.length_take]; have := HB.out; omega
      have A1 : Hid (∀ z, z ∈ Y1 → aheadA z x = true) := Lib.hid (fun z hz => by
        obtain ⟨t, ht, rfl⟩ := mem_ael hz
        have e : ael L (m + t) = ael Y1 t := by
          have e0 := ael_mid (P := P ++ [x]) (X := Y) (R := S) (L := L) EL.out (t := t) (by have := HB.out; omega)
          rw [show (P ++ [x]).length = m by have := HA.out; have := HM.out; simp; omega] at e0
          rw [e0, hY1]; exact (ael_take_lt (by omega)).symm
        rw [← e]; exact HP.out.left _ (by omega) (by omega))
      have A2 : Hid (∀ z, z ∈ Y2 → aheadA z x = false) := Lib.hid (fun z hz => by
        obtain ⟨t, ht, rfl⟩ := mem_ael hz
        have ht2 : q + t < Y.length := by rw [hY2, List.length_drop] at ht; omega
        have e : ael L (m + (q + t)) = ael Y2 t := by
          have e0 := ael_mid (P := P ++ [x]) (X := Y) (R := S) (L := L) EL.out (t := q + t) ht2
          rw [show (P ++ [x]).length = m by have := HA.out; have := HM.out; simp; omega] at e0
          rw [e0, hY2]; exact ael_drop.symm
        rw [← e]; exact HP.out.right _ (by omega) (by have := HB.out; omega))
      have RR : Hid (Rt 86 g c lo n w wr (P ++ Y1.take 0 ++ x :: Y1.drop 0 ++ Y2 ++ S)) := Lib.hid (by have := R.out; rw [EL.out, ← hYY] at this; simpa using this)
      have HYY := Lib.hid hYY
      have HL1 := Lib.hid hl1
      obtain ⟨i1, hi1e⟩ : ∃ i1, i1 = i - 1 := ⟨_, rfl⟩
      have hia : i1 = a + q := by have := HM.out; omega
      have wi : IntKind.i64.wrap ((i : Int) - 1) = (i1 : Int) := by rw [show (i : Int) - 1 = (i1 : Int) by omega]; exact IntWalk.i64_in _ (by omega)
      have HIA := Lib.hid hia
      have hi1n : i1 < n := by omega
      clear hq hY1 hY2 hYY hl1 hi1e R hia
      go_wp2
      go_loopw [13] (fun v wr => ∃ t k : Nat, v = .int .i64 (k : Int) ∧ k = a + t ∧ t ≤ q ∧ Rt 86 g c lo n w wr (P ++ Y1.take t ++ x :: Y1.drop t ++ Y2 ++ S)) (fun v _ => i1 - (intOf v).toNat)
      case atStart => exact ⟨0, a, rfl, rfl, Nat.zero_le _, RR.out⟩
      case round =>
        obtain ⟨t, k, rfl, hk, htq, hr⟩ := hrel
        have R := Lib.hid hr
        clear hr
        by_cases hlt : k < i1
        · have hlt' : (k : Int) < (i1 : Int) := by omega
          have htq : t + 1 ≤ q := by have := HIA.out; omega
          obtain ⟨k1, hk1⟩ : ∃ k1, k1 = k + 1 := ⟨_, rfl⟩
          have wk : IntKind.i64.wrap ((k : Int) + 1) = (k1 : Int) := by rw [show (k : Int) + 1 = (k1 : Int) by omega]; exact IntWalk.i64_in _ (by omega)
          obtain ⟨y, hy⟩ : ∃ y, y = ael Y1 t := ⟨_, rfl⟩
          have ed : Y1.drop t = y :: Y1.drop (t + 1) := by rw [hy]; exact rel_drop aD (by have := HL1.out; omega)
          have et : Y1.take (t + 1) = Y1.take t ++ [y] := by rw [hy]; exact ael_take (by have := HL1.out; omega)
          have R := Lib.hid (by have := R.out; rw [ed] at this; exact this : Rt 86 g c lo n w wr (P ++ Y1.take t ++ x :: y :: Y1.drop (t + 1) ++ Y2 ++ S))
          have NX : Hid (swp aD (P ++ Y1.take t ++ x :: y :: Y1.drop (t + 1) ++ Y2 ++ S) k k1 = P ++ Y1.take (t + 1) ++ x :: Y1.drop (t + 1) ++ Y2 ++ S) := by
            have := swp_next aD (P ++ Y1.take t) (Y1.drop (t + 1) ++ Y2 ++ S) x y
            have hl : (P ++ Y1.take t).length = k := by have := HA.out; have := HL1.out; simp; omega
            rw [hl, ← hk1] at this
            rw [et]
            simpa using Lib.hid this
          have hkn : k < n := by omega
          have hk1n : k1 < n := by omega
          have HK := Lib.hid hk
          have HK1 := Lib.hid hk1
          have hms : i1 - k1 < i1 - k := by omega
          clear ed et hy hlt hk1 hk
          generalize P ++ Y1.take t ++ x :: y :: Y1.drop (t + 1) ++ Y2 ++ S = L2 at R NX
          have hinf : (Try.prog.info? 86).map (·.size) = some 6 := by kernel_rfl
          have hLn := R.out.len
          have SW := Lib.hid (R.out.drew.swap (i := k) (j := k1) (by omega) (by omega))
          have CI := own_ag R.out.own k (by omega)
          have CJ := own_ag R.out.own k1 (by omega)
          have P1 := (putAg_own R.out.drew.own (show k < (L2).length by omega) (ael (L2) k1).win (ael (L2) k1).key (ael (L2) k1).cnt (ael (L2) k1).sum (ael (L2) k1).mn (ael (L2) k1).mx).1
          have T1 := Lib.hid (there_ownA R.out.drew.own (show k < (L2).length by omega))
          have T2 := Lib.hid (there_ownA P1 (show k1 < ((L2).set k _).length by rw [List.length_set]; omega))
          clear P1
          have hi0 : (0 : Int) ≤ (k : Int) := by omega
          have hi1 : (k : Int) < (n : Int) := by omega
          have hj0 : (0 : Int) ≤ (k1 : Int) := by omega
          have hj1 : (k1 : Int) < (n : Int) := by omega
          clear hLn
          generalize ael L2 k = X9 at SW CI T1 T2
          generalize ael L2 k1 = Y9 at SW CJ T1 T2
          obtain ⟨u0, u1, u2, u3, u4, u5⟩ := X9
          obtain ⟨v0, v1, v2, v3, v4, v5⟩ := Y9
          simp only at SW CI CJ T1 T2
          obtain ⟨a0, a1, a2, a3, a4, a5⟩ := CI
          obtain ⟨b0, b1, b2, b3, b4, b5⟩ := CJ
          go_wp2_with fail
          refine wp_region_any (by kernel_rfl) ?_
          change wpAny _ _ _ _ _ _ _ (World.drew _)
          refine wpAny_take (oi := ⟨some 61, _, _, _, _, _⟩) (i := 0) (v := (.slice (some ⟨g, 0, none⟩) n c)) rfl (by kernel_rfl) (by kernel_rfl) (by kernel_rfl) (fun _ _ _ h => h) (Or.inl ⟨by kernel_rfl, fun w => by go_simp⟩) ?_
          go_simp
          refine wpAny_take (oi := ⟨some 62, _, _, _, _, _⟩) (i := 1) (v := .int .i64 (k : Int)) rfl (by kernel_rfl) (by kernel_rfl) (by kernel_rfl) (fun _ _ _ h => h) (Or.inl ⟨by kernel_rfl, fun w => by go_simp⟩) ?_
          go_simp
          refine wpAny_take (oi := ⟨some 63, _, _, _, _, _⟩) (i := 2) (v := (.slice (some ⟨g, 0, none⟩) n c)) rfl (by kernel_rfl) (by kernel_rfl) (by kernel_rfl) (fun _ _ _ h => h) (Or.inl ⟨by kernel_rfl, fun w => by go_simp⟩) ?_
          go_simp
          refine wpAny_take (oi := ⟨some 64, _, _, _, _, _⟩) (i := 3) (v := .int .i64 (k : Int)) rfl (by kernel_rfl) (by kernel_rfl) (by kernel_rfl) (fun _ _ _ h => h) (Or.inl ⟨by kernel_rfl, fun w => by go_simp⟩) ?_
          go_simp
          refine wpAny_take (oi := ⟨some 65, _, _, _, _, _⟩) (i := 4) (v := .int .i64 (k1 : Int)) rfl (by kernel_rfl) (by kernel_rfl) (by kernel_rfl) (fun _ _ _ h => h) (Or.inl ⟨by kernel_rfl, fun w => by go_simp⟩) ?_
          go_simp
          refine wpAny_take (oi := ⟨some 66, _, _, _, _, _⟩) (i := 5) (v := (.slice (some ⟨g, 0, none⟩) n c)) rfl (by kernel_rfl) (by kernel_rfl) (by kernel_rfl) (fun _ _ _ h => h) (Or.inl ⟨by kernel_rfl, fun w => by go_simp⟩) ?_
          go_simp
          refine wpAny_take (oi := ⟨some 67, _, _, _, _, _⟩) (i := 6) (v := .int .i64 (k : Int)) rfl (by kernel_rfl) (by kernel_rfl) (by kernel_rfl) (fun _ _ _ h => h) (Or.inl ⟨by kernel_rfl, fun w => by go_simp⟩) ?_
          go_simp
          refine wpAny_take (oi := ⟨some 68, _, _, _, _, _⟩) (i := 7) (v := .int .i64 (k1 : Int)) rfl (by kernel_rfl) (by kernel_rfl) (by kernel_rfl) (fun _ _ _ h => h) (Or.inl ⟨by kernel_rfl, fun w => by go_simp⟩) ?_
          go_simp
          refine wpAny_take (oi := ⟨some 69, _, _, _, _, _⟩) (i := 8) (v := .pointer (some ⟨g, k1 * 6, none⟩)) rfl (by kernel_rfl) (by kernel_rfl) (by kernel_rfl) (fun _ _ _ h => h) (Or.inl ⟨by kernel_rfl, fun w => by go_simp⟩) ?_
          go_simp
          refine wpAny_take (oi := ⟨some 71, _, _, _, _, _⟩) (i := 10) (v := (.slice (some ⟨g, 0, none⟩) n c)) rfl (by kernel_rfl) (by kernel_rfl) (by kernel_rfl) (fun _ _ _ h => h) (Or.inl ⟨by kernel_rfl, fun w => by go_simp⟩) ?_
          go_simp
          refine wpAny_take (oi := ⟨some 72, _, _, _, _, _⟩) (i := 11) (v := .int .i64 (k : Int)) rfl (by kernel_rfl) (by kernel_rfl) (by kernel_rfl) (fun _ _ _ h => h) (Or.inl ⟨by kernel_rfl, fun w => by go_simp⟩) ?_
          go_simp
          refine wpAny_take (oi := ⟨some 73, _, _, _, _, _⟩) (i := 12) (v := .pointer (some ⟨g, k * 6, none⟩)) rfl (by kernel_rfl) (by kernel_rfl) (by kernel_rfl) (fun _ _ _ h => h) (Or.inl ⟨by kernel_rfl, fun w => by go_simp⟩) ?_
          go_simp
          refine wpAny_ready (rs := [9, 13]) (by kernel_rfl) (by simp) ?_
          refine AllReady.cons rfl (fun K hK => ?_) (AllReady.cons rfl (fun K hK => ?_) AllReady.nil)
          · go_simp
            refine hK _ _ ?_
            clear hK K
            refine wpAny_ready (rs := [13]) (by kernel_rfl) (by simp) ?_
            refine AllReady.cons rfl (fun K hK => ?_) AllReady.nil
            go_simp
            refine hK _ _ ?_
            clear hK K
            refine wpAny_take (oi := ⟨some 75, _, _, _, _, _⟩) (i := 14) (v := .pointer (some ⟨g, k * 6, none⟩)) rfl (by kernel_rfl) (by kernel_rfl) (by kernel_rfl) (fun _ _ _ h => h) (Or.inl ⟨by kernel_rfl, fun w => by go_simp⟩) ?_
            go_simp
            refine wpAny_ready (rs := [15]) (by kernel_rfl) (by simp) ?_
            refine AllReady.cons rfl (fun K hK => ?_) AllReady.nil
            rw [if_pos (by rfl)]
            refine wp_store_mid _ _ _ rfl g (k * 6) #[.int .i64 v0, .int .i64 v1, .int .i64 v2, .int .i64 v3, .int .i64 v4, .int .i64 v5] rfl rfl T1.out hinf (by simp [Value.oneCell']) ?_
            refine hK _ _ ?_
            clear hK K
            change wpAny _ _ _ _ _ _ _ (World.setCells (World.drew _) g (k * 6) [.int .i64 v0, .int .i64 v1, .int .i64 v2, .int .i64 v3, .int .i64 v4, .int .i64 v5])
            rw [setCells_putA]
            generalize hW5 : putAg wr.drew g (k * 6) v0 v1 v2 v3 v4 v5 = W5 at T2 ⊢
            have HW5 := Lib.hid hW5
            clear hW5
            refine wpAny_take (oi := ⟨some 76, _, _, _, _, _⟩) (i := 16) (v := .pointer (some ⟨g, k1 * 6, none⟩)) rfl (by kernel_rfl) (by kernel_rfl) (by kernel_rfl) (fun _ _ _ h => h) (Or.inl ⟨by kernel_rfl, fun w => by go_simp⟩) ?_
            go_simp
            refine wpAny_ready (rs := [17]) (by kernel_rfl) (by simp) ?_
            refine AllReady.cons rfl (fun K hK => ?_) AllReady.nil
            rw [if_pos (by rfl)]
            refine wp_store_mid _ _ _ rfl g (k1 * 6) #[.int .i64 u0, .int .i64 u1, .int .i64 u2, .int .i64 u3, .int .i64 u4, .int .i64 u5] rfl rfl T2.out hinf (by simp [Value.oneCell']) ?_
            refine hK _ _ ?_
            clear hK K
            change wpAny _ _ _ _ _ _ _ (World.setCells _ g (k1 * 6) [.int .i64 u0, .int .i64 u1, .int .i64 u2, .int .i64 u3, .int .i64 u4, .int .i64 u5])
            rw [setCells_putA]
            refine wpAny_done (by kernel_rfl) ?_ _
            generalize hW6 : putAg W5 g (k1 * 6) u0 u1 u2 u3 u4 u5 = W6
            have HW6 := Lib.hid (hW6.symm.trans (by rw [← HW5.out]))
            clear hW6 HW5
            go_wp2
            go_roundw
            case rel => exact ⟨t + 1, k1, by go_num, by have := HK1.out; have := HK.out; omega, htq, by rw [HW6.out, ← NX.out]; exact SW.out⟩
            case measure => simp [intOf]; omega
          · go_simp
            refine hK _ _ ?_
            clear hK K
            refine wpAny_ready (rs := [9]) (by kernel_rfl) (by simp) ?_
            refine AllReady.cons rfl (fun K hK => ?_) AllReady.nil
            go_simp
            refine hK _ _ ?_
            clear hK K
            refine wpAny_take (oi := ⟨some 75, _, _, _, _, _⟩) (i := 14) (v := .pointer (some ⟨g, k * 6, none⟩)) rfl (by kernel_rfl) (by kernel_rfl) (by kernel_rfl) (fun _ _ _ h => h) (Or.inl ⟨by kernel_rfl, fun w => by go_simp⟩) ?_
            go_simp
            refine wpAny_ready (rs := [15]) (by kernel_rfl) (by simp) ?_
            refine AllReady.cons rfl (fun K hK => ?_) AllReady.nil
            rw [if_pos (by rfl)]
            refine wp_store_mid _ _ _ rfl g (k * 6) #[.int .i64 v0, .int .i64 v1, .int .i64 v2, .int .i64 v3, .int .i64 v4, .int .i64 v5] rfl rfl T1.out hinf (by simp [Value.oneCell']) ?_
            refine hK _ _ ?_
            clear hK K
            change wpAny _ _ _ _ _ _ _ (World.setCells (World.drew _) g (k * 6) [.int .i64 v0, .int .i64 v1, .int .i64 v2, .int .i64 v3, .int .i64 v4, .int .i64 v5])
            rw [setCells_putA]
            generalize hW5 : putAg wr.drew g (k * 6) v0 v1 v2 v3 v4 v5 = W5 at T2 ⊢
            have HW5 := Lib.hid hW5
            clear hW5
            refine wpAny_take (oi := ⟨some 76, _, _, _, _, _⟩) (i := 16) (v := .pointer (some ⟨g, k1 * 6, none⟩)) rfl (by kernel_rfl) (by kernel_rfl) (by kernel_rfl) (fun _ _ _ h => h) (Or.inl ⟨by kernel_rfl, fun w => by go_simp⟩) ?_
            go_simp
            refine wpAny_ready (rs := [17]) (by kernel_rfl) (by simp) ?_
            refine AllReady.cons rfl (fun K hK => ?_) AllReady.nil
            rw [if_pos (by rfl)]
            refine wp_store_mid _ _ _ rfl g (k1 * 6) #[.int .i64 u0, .int .i64 u1, .int .i64 u2, .int .i64 u3, .int .i64 u4, .int .i64 u5] rfl rfl T2.out hinf (by simp [Value.oneCell']) ?_
            refine hK _ _ ?_
            clear hK K
            change wpAny _ _ _ _ _ _ _ (World.setCells _ g (k1 * 6) [.int .i64 u0, .int .i64 u1, .int .i64 u2, .int .i64 u3, .int .i64 u4, .int .i64 u5])
            rw [setCells_putA]
            refine wpAny_done (by kernel_rfl) ?_ _
            generalize hW6 : putAg W5 g (k1 * 6) u0 u1 u2 u3 u4 u5 = W6
            have HW6 := Lib.hid (hW6.symm.trans (by rw [← HW5.out]))
            clear hW6 HW5
            go_wp2
            go_roundw
            case rel => exact ⟨t + 1, k1, by go_num, by have := HK1.out; have := HK.out; omega, htq, by rw [HW6.out, ← NX.out]; exact SW.out⟩
            case measure => simp [intOf]; omega
        · have hlt' : ¬ (k : Int) < (i1 : Int) := by omega
          obtain rfl : t = q := by have := HIA.out; omega
          have FIN : Hid (Merged 86 g c lo n P [x] Y S w wr) := Lib.hid ⟨Y1 ++ x :: Y2, by
            have := StS.insFront swoA (A := Y1) (B := Y2) (x := x) (by rw [HYY.out]; exact HYS.out) A1.out A2.out
            rw [HYY.out] at this; exact this, by
            have := R.out
            rw [List.take_of_length_le (by have := HL1.out; omega), List.drop_eq_nil_of_le (by have := HL1.out; omega)] at this
            simpa using this⟩
          clear R
          go_wp2
          (try simp only [Exit.inBlock, Exit.then])
          refine bodyPost_ret (v := .tuple #[]) (by simp [results, Try.results135, go_sem]) rfl ?_
          exact ⟨rfl, FIN.out⟩

end Go.Proofs.Ytchbmnpajnlijaa
