/- slices.symMergeCmpFunc over aggs, where the second run is one agg. (made by tools/mkstab.py) -/
import Derived.Test.YtchbmnpajnlijaaStab5
namespace Go.Proofs.Ytchbmnpajnlijaa
open Go.RowKit Stab
set_option maxHeartbeats 8000000 in
set_option maxRecDepth 100000 in
theorem sym_back (g c lo n a m b : Nat) (P X S : List Ag) (x : Ag) (w : World) (h : w.ownsRow lo 86 6 (.slice (some ⟨g, 0, none⟩) n c) n (flatA (P ++ X ++ [x] ++ S))) (ha : a = P.length) (hm : m = a + X.length) (hb : b = m + 1) (hX0 : 1 < X.length) (hX : Srt aheadA X) (hbig : n ≤ 4294967296) :
    Calls Try.prog 135 #[(.slice (some ⟨g, 0, none⟩) n c), .int .i64 (a : Int), .int .i64 (m : Int), .int .i64 (b : Int), .func (.func 106) #[] #[]] w fun e w' => e = .returned (.tuple #[]) ∧ Merged 86 g c lo n P X [x] S w w' := by
  have hn : n = P.length + X.length + 1 + S.length := by rw [(Rt.start h).len]; simp; omega
  have hbn : b ≤ n := by omega
  have hmb : m < b := by omega
  have ham : a < m := by omega
  obtain ⟨L, hL⟩ : ∃ L, L = P ++ X ++ [x] ++ S := ⟨_, rfl⟩
  have hL2 : L = P ++ X ++ ([x] ++ S) := by rw [hL]; simp
  have R0 := Lib.hid (Rt.start h)
  rw [← hL] at R0
  have HS := Lib.hid (srtOn_mid (P := P) (X := X) (R := [x] ++ S) (L := L) hL2 hX (a := a) (b := m) ha (by omega))
  have EA := Lib.hid (show ael L m = x by rw [hL, show P ++ X ++ [x] ++ S = (P ++ X) ++ x :: S by simp]; exact ael_app (by simp; omega))
  have EL := Lib.hid hL2
  have HA := Lib.hid ha
  have HM := Lib.hid hm
  have HXS := Lib.hid hX
  have P0 : Hid (Hi1 L x a m a m) := Lib.hid ⟨Nat.le_refl _, by omega, Nat.le_refl _, fun t t1 t2 => absurd t1 (by omega), fun t t1 t2 => absurd t1 (by omega)⟩
  obtain ⟨d1, hd1⟩ : ∃ d1, d1 = m - a := ⟨_, rfl⟩
  have wm : IntKind.i64.wrap ((m : Int) - (a : Int)) = (d1 : Int) := by rw [show (m : Int) - (a : Int) = (d1 : Int) by omega]; exact IntWalk.i64_in _ (by omega)
  have hne : ((d1 : Int) == 1) = false := by simp; omega
  have wb : IntKind.i64.wrap ((b : Int) - (m : Int)) = 1 := by rw [show (b : Int) - (m : Int) = 1 by omega]; exact IntWalk.i64_in _ (by omega)
  clear h ha hm hb hX hL hL2 hn hX0 hd1
  go_enter Try.func135, Try.ntmps135
  go_wp2
  go_loopw [14, 15] (fun vx vy wr => ∃ i j : Nat, vx = .int .i64 (i : Int) ∧ vy = .int .i64 (j : Int) ∧ Hi1 L x a m i j ∧ Rt 86 g c lo n w wr L) (fun vx vy _ => (intOf vy).toNat - (intOf vx).toNat)
  case atStart => exact ⟨a, m, rfl, rfl, P0.out, R0.out⟩
  case round =>
    obtain ⟨i, j, rfl, rfl, hp, hr⟩ := hrel
    have HP := Lib.hid hp
    have R := Lib.hid hr
    have b1 := hp.ai
    have b2 := hp.ij
    have b3 := hp.jm
    clear hp hr
    by_cases hij : i < j
    · obtain ⟨h, hh⟩ : ∃ h, h = (i + j) / 2 := ⟨_, rfl⟩
      have hsum : ((i : Int) + (j : Int)) / 2 = (h : Int) := by omega
      have hij' : (i : Int) < (j : Int) := by omega
      have hih : i ≤ h := by omega
      have hhj : h < j := by omega
      obtain ⟨h1, hh1⟩ : ∃ h1, h1 = h + 1 := ⟨_, rfl⟩
      have wh : IntKind.i64.wrap ((h : Int) + 1) = (h1 : Int) := by rw [show (h : Int) + 1 = (h1 : Int) by omega]; exact IntWalk.i64_in _ (by omega)
      clear hh
      cases hAB : aheadA (ael L m) (ael L h) with
      | true =>
        have NEW : Hid (∃ i2 j2 : Nat, Value.int .i64 (i : Int) = .int .i64 (i2 : Int) ∧ Value.int .i64 (h : Int) = .int .i64 (j2 : Int) ∧ Hi1 L x a m i2 j2) := Lib.hid ⟨i, h, rfl, rfl, HP.out.down HS.out hih hhj (by rw [← EA.out]; exact hAB)⟩
        have hms : h - i < j - i := by omega
        clear hh1
        have hLn := R.out.len
        have CE : Hid (∀ W9, Below wr.heap.size wr W9 → W9.cell? ⟨g, m * 6, none⟩ = some (.int .i64 (ael (L) m).win) ∧ W9.cell? ⟨g, m * 6 + 1, none⟩ = some (.int .i64 (ael (L) m).key) ∧ W9.cell? ⟨g, m * 6 + 2, none⟩ = some (.int .i64 (ael (L) m).cnt) ∧ W9.cell? ⟨g, m * 6 + 3, none⟩ = some (.int .i64 (ael (L) m).sum) ∧ W9.cell? ⟨g, m * 6 + 4, none⟩ = some (.int .i64 (ael (L) m).mn) ∧ W9.cell? ⟨g, m * 6 + 5, none⟩ = some (.int .i64 (ael (L) m).mx) ∧ W9.cell? ⟨g, h * 6, none⟩ = some (.int .i64 (ael (L) h).win) ∧ W9.cell? ⟨g, h * 6 + 1, none⟩ = some (.int .i64 (ael (L) h).key) ∧ W9.cell? ⟨g, h * 6 + 2, none⟩ = some (.int .i64 (ael (L) h).cnt) ∧ W9.cell? ⟨g, h * 6 + 3, none⟩ = some (.int .i64 (ael (L) h).sum) ∧ W9.cell? ⟨g, h * 6 + 4, none⟩ = some (.int .i64 (ael (L) h).mn) ∧ W9.cell? ⟨g, h * 6 + 5, none⟩ = some (.int .i64 (ael (L) h).mx)) := Lib.hid (fun W9 hb9 => by
          have o9 := (R.out.below hb9).own
          obtain ⟨p0, p1, p2, p3, p4, p5⟩ := own_ag o9 m (by omega)
          obtain ⟨r0, r1, r2, r3, r4, r5⟩ := own_ag o9 h (by omega)
          exact ⟨p0, p1, p2, p3, p4, p5, r0, r1, r2, r3, r4, r5⟩)
        have hX : cmpA (ael (L) m) (ael (L) h) < 0 := cmpA_neg.2 hAB
        have hi0 : (0 : Int) ≤ (m : Int) := by omega
        have hi1 : (m : Int) < (n : Int) := by omega
        have hj0 : (0 : Int) ≤ (h : Int) := by omega
        have hj1 : (h : Int) < (n : Int) := by omega
        clear hLn hAB
        generalize hX9 : ael (L) m = X9 at CE hX
        generalize hY9 : ael (L) h = Y9 at CE hX
        obtain ⟨u0, u1, u2, u3, u4, u5⟩ := X9
        obtain ⟨v0, v1, v2, v3, v4, v5⟩ := Y9
        simp only at CE hX
        have EX := Lib.hid hX9
        have EY := Lib.hid hY9
        clear hX9 hY9
        have CM := Lib.hid (fun W => cmpA_x u0 u1 u2 u3 u4 u5 v0 v1 v2 v3 v4 v5 W)
        generalize cmpA ⟨u0, u1, u2, u3, u4, u5⟩ ⟨v0, v1, v2, v3, v4, v5⟩ = z9 at CM hX
        have hXd : decide (z9 < 0) = true := decide_eq_true hX
        have hXn : (!decide (z9 < 0)) = false := by rw [hXd]; rfl
        obtain ⟨q0, q1, q2, q3, q4, q5, t0, t1, t2, t3, t4, t5⟩ := CE.out wr.drew ((Below.refl _ _).drew)
        go_wp2_with fail
        go_region_held3 (fun W => W.cell? ⟨g, m * 6, none⟩ = some (.int .i64 u0) ∧ W.cell? ⟨g, m * 6 + 1, none⟩ = some (.int .i64 u1) ∧ W.cell? ⟨g, m * 6 + 2, none⟩ = some (.int .i64 u2) ∧ W.cell? ⟨g, m * 6 + 3, none⟩ = some (.int .i64 u3) ∧ W.cell? ⟨g, m * 6 + 4, none⟩ = some (.int .i64 u4) ∧ W.cell? ⟨g, m * 6 + 5, none⟩ = some (.int .i64 u5) ∧ W.cell? ⟨g, h * 6, none⟩ = some (.int .i64 v0) ∧ W.cell? ⟨g, h * 6 + 1, none⟩ = some (.int .i64 v1) ∧ W.cell? ⟨g, h * 6 + 2, none⟩ = some (.int .i64 v2) ∧ W.cell? ⟨g, h * 6 + 3, none⟩ = some (.int .i64 v3) ∧ W.cell? ⟨g, h * 6 + 4, none⟩ = some (.int .i64 v4) ∧ W.cell? ⟨g, h * 6 + 5, none⟩ = some (.int .i64 v5))
          (exact ⟨q0, q1, q2, q3, q4, q5, t0, t1, t2, t3, t4, t5⟩)
          (first | (go_at_call 106; refine (CM.out _).mono ?_; rintro e w2 ⟨rfl, hb⟩; have R := Lib.hid (R.out.drew.below hb); obtain ⟨q0, q1, q2, q3, q4, q5, t0, t1, t2, t3, t4, t5⟩ := CE.out w2 ((Below.refl _ _).drew.trans hb); clear hb))
        all_goals
          clear q0 q1 q2 q3 q4 q5 t0 t1 t2 t3 t4 t5
          go_wp2
          go_roundw
          case rel => obtain ⟨i2, j2, e1, e2, hp2⟩ := NEW.out; exact ⟨i2, j2, e1, e2, hp2, R.out⟩
          case measure => simp [intOf]; omega
      | false =>
        have NEW : Hid (∃ i2 j2 : Nat, Value.int .i64 (h1 : Int) = .int .i64 (i2 : Int) ∧ Value.int .i64 (j : Int) = .int .i64 (j2 : Int) ∧ Hi1 L x a m i2 j2) := Lib.hid ⟨h1, j, rfl, rfl, HP.out.up HS.out hih hhj (by rw [← EA.out]; exact hAB) |> fun s => hh1 ▸ s⟩
        have hms : j - h1 < j - i := by omega
        clear hh1
        have hLn := R.out.len
        have CE : Hid (∀ W9, Below wr.heap.size wr W9 → W9.cell? ⟨g, m * 6, none⟩ = some (.int .i64 (ael (L) m).win) ∧ W9.cell? ⟨g, m * 6 + 1, none⟩ = some (.int .i64 (ael (L) m).key) ∧ W9.cell? ⟨g, m * 6 + 2, none⟩ = some (.int .i64 (ael (L) m).cnt) ∧ W9.cell? ⟨g, m * 6 + 3, none⟩ = some (.int .i64 (ael (L) m).sum) ∧ W9.cell? ⟨g, m * 6 + 4, none⟩ = some (.int .i64 (ael (L) m).mn) ∧ W9.cell? ⟨g, m * 6 + 5, none⟩ = some (.int .i64 (ael (L) m).mx) ∧ W9.cell? ⟨g, h * 6, none⟩ = some (.int .i64 (ael (L) h).win) ∧ W9.cell? ⟨g, h * 6 + 1, none⟩ = some (.int .i64 (ael (L) h).key) ∧ W9.cell? ⟨g, h * 6 + 2, none⟩ = some (.int .i64 (ael (L) h).cnt) ∧ W9.cell? ⟨g, h * 6 + 3, none⟩ = some (.int .i64 (ael (L) h).sum) ∧ W9.cell? ⟨g, h * 6 + 4, none⟩ = some (.int .i64 (ael (L) h).mn) ∧ W9.cell? ⟨g, h * 6 + 5, none⟩ = some (.int .i64 (ael (L) h).mx)) := Lib.hid (fun W9 hb9 => by
          have o9 := (R.out.below hb9).own
          obtain ⟨p0, p1, p2, p3, p4, p5⟩ := own_ag o9 m (by omega)
          obtain ⟨r0, r1, r2, r3, r4, r5⟩ := own_ag o9 h (by omega)
          exact ⟨p0, p1, p2, p3, p4, p5, r0, r1, r2, r3, r4, r5⟩)
        have hX : ¬ cmpA (ael (L) m) (ael (L) h) < 0 := fun h9 => by rw [cmpA_neg.1 h9] at hAB; cases hAB
        have hi0 : (0 : Int) ≤ (m : Int) := by omega
        have hi1 : (m : Int) < (n : Int) := by omega
        have hj0 : (0 : Int) ≤ (h : Int) := by omega
        have hj1 : (h : Int) < (n : Int) := by omega
        clear hLn hAB
        generalize hX9 : ael (L) m = X9 at CE hX
        generalize hY9 : ael (L) h = Y9 at CE hX
        obtain ⟨u0, u1, u2, u3, u4, u5⟩ := X9
        obtain ⟨v0, v1, v2, v3, v4, v5⟩ := Y9
        simp only at CE hX
        have EX := Lib.hid hX9
        have EY := Lib.hid hY9
        clear hX9 hY9
        have CM := Lib.hid (fun W => cmpA_x u0 u1 u2 u3 u4 u5 v0 v1 v2 v3 v4 v5 W)
        generalize cmpA ⟨u0, u1, u2, u3, u4, u5⟩ ⟨v0, v1, v2, v3, v4, v5⟩ = z9 at CM hX
        have hXd : decide (z9 < 0) = false := decide_eq_false hX
        have hXn : (!decide (z9 < 0)) = true := by rw [hXd]; rfl
        obtain ⟨q0, q1, q2, q3, q4, q5, t0, t1, t2, t3, t4, t5⟩ := CE.out wr.drew ((Below.refl _ _).drew)
        go_wp2_with fail
        go_region_held3 (fun W => W.cell? ⟨g, m * 6, none⟩ = some (.int .i64 u0) ∧ W.cell? ⟨g, m * 6 + 1, none⟩ = some (.int .i64 u1) ∧ W.cell? ⟨g, m * 6 + 2, none⟩ = some (.int .i64 u2) ∧ W.cell? ⟨g, m * 6 + 3, none⟩ = some (.int .i64 u3) ∧ W.cell? ⟨g, m * 6 + 4, none⟩ = some (.int .i64 u4) ∧ W.cell? ⟨g, m * 6 + 5, none⟩ = some (.int .i64 u5) ∧ W.cell? ⟨g, h * 6, none⟩ = some (.int .i64 v0) ∧ W.cell? ⟨g, h * 6 + 1, none⟩ = some (.int .i64 v1) ∧ W.cell? ⟨g, h * 6 + 2, none⟩ = some (.int .i64 v2) ∧ W.cell? ⟨g, h * 6 + 3, none⟩ = some (.int .i64 v3) ∧ W.cell? ⟨g, h * 6 + 4, none⟩ = some (.int .i64 v4) ∧ W.cell? ⟨g, h * 6 + 5, none⟩ = some (.int .i64 v5))
          (exact ⟨q0, q1, q2, q3, q4, q5, t0, t1, t2, t3, t4, t5⟩)
          (first | (go_at_call 106; refine (CM.out _).mono ?_; rintro e w2 ⟨rfl, hb⟩; have R := Lib.hid (R.out.drew.below hb); obtain ⟨q0, q1, q2, q3, q4, q5, t0, t1, t2, t3, t4, t5⟩ := CE.out w2 ((Below.refl _ _).drew.trans hb); clear hb))
        all_goals
          clear q0 q1 q2 q3 q4 q5 t0 t1 t2 t3 t4 t5
          go_wp2
          go_roundw
          case rel => obtain ⟨i2, j2, e1, e2, hp2⟩ := NEW.out; exact ⟨i2, j2, e1, e2, hp2, R.out⟩
          case measure => simp [intOf]; omega
    · obtain rfl : i = j := by omega
      have hij' : ¬ (i : Int) < (i : Int) := by omega
      obtain ⟨q, hq⟩ : ∃ q, q = m - i := ⟨_, rfl⟩
      obtain ⟨X1, hX1⟩ : ∃ X1, X1 = X.take (i - a) := ⟨_, rfl⟩
      obtain ⟨X2, hX2⟩ : ∃ X2, X2 = X.drop (i - a) := ⟨_, rfl⟩
      have hXX : X1 ++ X2 = X := by rw [hX1, hX2]; exact List.take_append_drop _ _
      have hl1 : X1.length = i - a := by rw [hX1, List.length_take]; have := HM.out; omega
      have hl2 : X2.length = q := by rw [hX2, List.length_drop]; have := HM.out; omega
      have A1 : Hid (∀ z, z ∈ X1 → aheadA x z = false) := Lib.hid (fun z hz => by
        obtain ⟨t, ht, rfl⟩ := mem_ael hz
        have e : ael L (a + t) = ael X1 t := by
          have e0 := ael_mid (P := P) (X := X) (R := [x] ++ S) (L := L) EL.out (t := t) (by have := HM.out; omega)
          rw [← HA.out] at e0
          rw [e0, hX1]; exact (ael_take_lt (by omega)).symm
        rw [← e]; exact HP.out.left _ (by omega) (by omega))
      have A2 : Hid (∀ z, z ∈ X2 → aheadA x z = true) := Lib.hid (fun z hz => by
        obtain ⟨t, ht, rfl⟩ := mem_ael hz
        have ht2 : i - a + t < X.length := by rw [hX2, List.length_drop] at ht; omega
        have e : ael L (a + (i - a + t)) = ael X2 t := by
          have e0 := ael_mid (P := P) (X := X) (R := [x] ++ S) (L := L) EL.out (t := i - a + t) ht2
          rw [← HA.out] at e0
          rw [e0, hX2]; exact ael_drop.symm
        rw [← e]; exact HP.out.right _ (by omega) (by have := HM.out; omega))
      have RR : Hid (Rt 86 g c lo n w wr (P ++ X1 ++ X2.take q ++ x :: X2.drop q ++ S)) := Lib.hid (by
        have := R.out
        rw [EL.out, ← hXX] at this
        rw [List.take_of_length_le (by omega), List.drop_eq_nil_of_le (by omega)]
        simpa using this)
      have HXX := Lib.hid hXX
      have HL1 := Lib.hid hl1
      have HL2 := Lib.hid hl2
      have hmq : m = i + q := by omega
      have HMQ := Lib.hid hmq
      have hin : i < n := by omega
      clear hq hX1 hX2 hXX hl1 hl2 R hmq
      go_wp2
      go_loopw [17] (fun v wr => ∃ t k : Nat, v = .int .i64 (k : Int) ∧ k = i + t ∧ t ≤ q ∧ Rt 86 g c lo n w wr (P ++ X1 ++ X2.take t ++ x :: X2.drop t ++ S)) (fun v _ => (intOf v).toNat)
      case atStart => exact ⟨q, m, rfl, HMQ.out, Nat.le_refl _, RR.out⟩
      case round =>
        obtain ⟨t, k, rfl, hk, htq, hr⟩ := hrel
        have R := Lib.hid hr
        clear hr
        rcases Nat.eq_zero_or_pos t with h0 | h0
        · subst h0
          simp only [Nat.add_zero] at hk
          subst hk
          have hlt' : ¬ (k : Int) < (k : Int) := by omega
          have FIN : Hid (Merged 86 g c lo n P X [x] S w wr) := Lib.hid ⟨X1 ++ x :: X2, by
            have := StS.ins swoA (A := X1) (B := X2) (x := x) (by rw [HXX.out]; exact HXS.out) A2.out A1.out
            rw [HXX.out] at this; exact this, by
            have := R.out
            simpa using this⟩
          clear R
          go_wp2
          (try simp only [Exit.inBlock, Exit.then])
          refine bodyPost_ret (v := .tuple #[]) (by simp [results, Try.results135, go_sem]) rfl ?_
          exact ⟨rfl, FIN.out⟩
        · obtain ⟨t, rfl⟩ : ∃ s, t = s + 1 := ⟨t - 1, by omega⟩
          have hlt' : (i : Int) < (k : Int) := by omega
          obtain ⟨k1, hk1⟩ : ∃ k1, k1 = i + t := ⟨_, rfl⟩
          have hkk : k = k1 + 1 := by omega
          have hkn : k < n := by have := HMQ.out; omega
          have wk : IntKind.i64.wrap ((k : Int) - 1) = (k1 : Int) := by rw [show (k : Int) - 1 = (k1 : Int) by omega]; exact IntWalk.i64_in _ (by omega)
          obtain ⟨y, hy⟩ : ∃ y, y = ael X2 t := ⟨_, rfl⟩
          have ed : X2.drop t = y :: X2.drop (t + 1) := by rw [hy]; exact rel_drop aD (by have := HL2.out; omega)
          have et : X2.take (t + 1) = X2.take t ++ [y] := by rw [hy]; exact ael_take (by have := HL2.out; omega)
          have R := Lib.hid (by have := R.out; rw [et, show P ++ X1 ++ (X2.take t ++ [y]) ++ x :: X2.drop (t + 1) ++ S = P ++ X1 ++ X2.take t ++ y :: x :: X2.drop (t + 1) ++ S by simp] at this; exact this : Rt 86 g c lo n w wr (P ++ X1 ++ X2.take t ++ y :: x :: X2.drop (t + 1) ++ S))
          have NX : Hid (swp aD (P ++ X1 ++ X2.take t ++ y :: x :: X2.drop (t + 1) ++ S) k k1 = P ++ X1 ++ X2.take t ++ x :: X2.drop t ++ S) := by
            rw [swp_comm]
            have := swp_next aD (P ++ X1 ++ X2.take t) (X2.drop (t + 1) ++ S) y x
            have hl : (P ++ X1 ++ X2.take t).length = k1 := by have := HA.out; have := HL1.out; have := HL2.out; simp; omega
            rw [hl, ← hkk] at this
            rw [ed]
            simpa using Lib.hid this
          have hk1n : k1 < n := by omega
          have HK1 := Lib.hid hk1
          have hms : k1 < k := by omega
          clear ed et hy hk1 hk hkk
          generalize P ++ X1 ++ X2.take t ++ y :: x :: X2.drop (t + 1) ++ S = L2 at R NX
          have hinf : (Try.prog.info? 86).map (·.size) = some 6 := by kernel_rfl
          have hLn := R.out.len
          have SW := Lib.hid (R.out.drew.swap (i := k) (j := k1) (by omega) (by omega))
          have CI := own_ag R.out.own k (by omega)
          have CJ := own_ag R.out.own k1 (by omega)
          have P1 := (putAg_own R.out.drew.own (show k < (L2).length by omega) (ael (L2) k1).win (ael (L2) k1).key (ael (L2) k1).cnt (ael (L2) k1).sum (ael (L2) k1).mn (ael (L2) k1).mx).1
          have T1 := Lib.hid (there_ownA R.out.drew.own (show k < (L2).length by omega))
          have T2 := Lib.hid (there_ownA P1 (show k1 < ((L2).set k _).length by rw [List.length_set]; omega))
          clear P1
          have hi0 : (0 : Int) ≤ (k : Int) := by omega
          have hi1 : (k : Int) < (n : Int) := by omega
          have hj0 : (0 : Int) ≤ (k1 : Int) := by omega
          have hj1 : (k1 : Int) < (n : Int) := by omega
          clear hLn
          generalize ael L2 k = X9 at SW CI T1 T2
          generalize ael L2 k1 = Y9 at SW CJ T1 T2
          obtain ⟨u0, u1, u2, u3, u4, u5⟩ := X9
          obtain ⟨v0, v1, v2, v3, v4, v5⟩ := Y9
          simp only at SW CI CJ T1 T2
          obtain ⟨a0, a1, a2, a3, a4, a5⟩ := CI
          obtain ⟨b0, b1, b2, b3, b4, b5⟩ := CJ
          go_wp2_with fail
          refine wp_region_any (by kernel_rfl) ?_
          change wpAny _ _ _ _ _ _ _ (World.drew _)
          refine wpAny_take (oi := ⟨some 113, _, _, _, _, _⟩) (i := 0) (v := (.slice (some ⟨g, 0, none⟩) n c)) rfl (by kernel_rfl) (by kernel_rfl) (by kernel_rfl) (fun _ _ _ h => h) (Or.inl ⟨by kernel_rfl, fun w => by go_simp⟩) ?_
          go_simp
          refine wpAny_take (oi := ⟨some 114, _, _, _, _, _⟩) (i := 1) (v := .int .i64 (k : Int)) rfl (by kernel_rfl) (by kernel_rfl) (by kernel_rfl) (fun _ _ _ h => h) (Or.inl ⟨by kernel_rfl, fun w => by go_simp⟩) ?_
          go_simp
          refine wpAny_take (oi := ⟨some 115, _, _, _, _, _⟩) (i := 2) (v := (.slice (some ⟨g, 0, none⟩) n c)) rfl (by kernel_rfl) (by kernel_rfl) (by kernel_rfl) (fun _ _ _ h => h) (Or.inl ⟨by kernel_rfl, fun w => by go_simp⟩) ?_
          go_simp
          refine wpAny_take (oi := ⟨some 116, _, _, _, _, _⟩) (i := 3) (v := .int .i64 (k : Int)) rfl (by kernel_rfl) (by kernel_rfl) (by kernel_rfl) (fun _ _ _ h => h) (Or.inl ⟨by kernel_rfl, fun w => by go_simp⟩) ?_
          go_simp
          refine wpAny_take (oi := ⟨some 117, _, _, _, _, _⟩) (i := 4) (v := .int .i64 (k1 : Int)) rfl (by kernel_rfl) (by kernel_rfl) (by kernel_rfl) (fun _ _ _ h => h) (Or.inl ⟨by kernel_rfl, fun w => by go_simp⟩) ?_
          go_simp
          refine wpAny_take (oi := ⟨some 118, _, _, _, _, _⟩) (i := 5) (v := (.slice (some ⟨g, 0, none⟩) n c)) rfl (by kernel_rfl) (by kernel_rfl) (by kernel_rfl) (fun _ _ _ h => h) (Or.inl ⟨by kernel_rfl, fun w => by go_simp⟩) ?_
          go_simp
          refine wpAny_take (oi := ⟨some 119, _, _, _, _, _⟩) (i := 6) (v := .int .i64 (k : Int)) rfl (by kernel_rfl) (by kernel_rfl) (by kernel_rfl) (fun _ _ _ h => h) (Or.inl ⟨by kernel_rfl, fun w => by go_simp⟩) ?_
          go_simp
          refine wpAny_take (oi := ⟨some 120, _, _, _, _, _⟩) (i := 7) (v := .int .i64 (k1 : Int)) rfl (by kernel_rfl) (by kernel_rfl) (by kernel_rfl) (fun _ _ _ h => h) (Or.inl ⟨by kernel_rfl, fun w => by go_simp⟩) ?_
          go_simp
          refine wpAny_take (oi := ⟨some 121, _, _, _, _, _⟩) (i := 8) (v := .pointer (some ⟨g, k1 * 6, none⟩)) rfl (by kernel_rfl) (by kernel_rfl) (by kernel_rfl) (fun _ _ _ h => h) (Or.inl ⟨by kernel_rfl, fun w => by go_simp⟩) ?_
          go_simp
          refine wpAny_take (oi := ⟨some 123, _, _, _, _, _⟩) (i := 10) (v := (.slice (some ⟨g, 0, none⟩) n c)) rfl (by kernel_rfl) (by kernel_rfl) (by kernel_rfl) (fun _ _ _ h => h) (Or.inl ⟨by kernel_rfl, fun w => by go_simp⟩) ?_
          go_simp
          refine wpAny_take (oi := ⟨some 124, _, _, _, _, _⟩) (i := 11) (v := .int .i64 (k : Int)) rfl (by kernel_rfl) (by kernel_rfl) (by kernel_rfl) (fun _ _ _ h => h) (Or.inl ⟨by kernel_rfl, fun w => by go_simp⟩) ?_
          go_simp
          refine wpAny_take (oi := ⟨some 125, _, _, _, _, _⟩) (i := 12) (v := .pointer (some ⟨g, k * 6, none⟩)) rfl (by kernel_rfl) (by kernel_rfl) (by kernel_rfl) (fun _ _ _ h => h) (Or.inl ⟨by kernel_rfl, fun w => by go_simp⟩) ?_
          go_simp
          refine wpAny_ready (rs := [9, 13]) (by kernel_rfl) (by simp) ?_
          refine AllReady.cons rfl (fun K hK => ?_) (AllReady.cons rfl (fun K hK => ?_) AllReady.nil)
          · go_simp
            refine hK _ _ ?_
            clear hK K
            refine wpAny_ready (rs := [13]) (by kernel_rfl) (by simp) ?_
            refine AllReady.cons rfl (fun K hK => ?_) AllReady.nil
            go_simp
            refine hK _ _ ?_
            clear hK K
            refine wpAny_take (oi := ⟨some 127, _, _, _, _, _⟩) (i := 14) (v := .pointer (some ⟨g, k * 6, none⟩)) rfl (by kernel_rfl) (by kernel_rfl) (by kernel_rfl) (fun _ _ _ h => h) (Or.inl ⟨by kernel_rfl, fun w => by go_simp⟩) ?_
            go_simp
            refine wpAny_ready (rs := [15]) (by kernel_rfl) (by simp) ?_
            refine AllReady.cons rfl (fun K hK => ?_) AllReady.nil
            rw [if_pos (by rfl)]
            refine wp_store_mid _ _ _ rfl g (k * 6) #[.int .i64 v0, .int .i64 v1, .int .i64 v2, .int .i64 v3, .int .i64 v4, .int .i64 v5] rfl rfl T1.out hinf (by simp [Value.oneCell']) ?_
            refine hK _ _ ?_
            clear hK K
            change wpAny _ _ _ _ _ _ _ (World.setCells (World.drew _) g (k * 6) [.int .i64 v0, .int .i64 v1, .int .i64 v2, .int .i64 v3, .int .i64 v4, .int .i64 v5])
            rw [setCells_putA]
            generalize hW5 : putAg wr.drew g (k * 6) v0 v1 v2 v3 v4 v5 = W5 at T2 ⊢
            have HW5 := Lib.hid hW5
            clear hW5
            refine wpAny_take (oi := ⟨some 128, _, _, _, _, _⟩) (i := 16) (v := .pointer (some ⟨g, k1 * 6, none⟩)) rfl (by kernel_rfl) (by kernel_rfl) (by kernel_rfl) (fun _ _ _ h => h) (Or.inl ⟨by kernel_rfl, fun w => by go_simp⟩) ?_
            go_simp
            refine wpAny_ready (rs := [17]) (by kernel_rfl) (by simp) ?_
            refine AllReady.cons rfl (fun K hK => ?_) AllReady.nil
            rw [if_pos (by rfl)]
            refine wp_store_mid _ _ _ rfl g (k1 * 6) #[.int .i64 u0, .int .i64 u1, .int .i64 u2, .int .i64 u3, .int .i64 u4, .int .i64 u5] rfl rfl T2.out hinf (by simp [Value.oneCell']) ?_
            refine hK _ _ ?_
            clear hK K
            change wpAny _ _ _ _ _ _ _ (World.setCells _ g (k1 * 6) [.int .i64 u0, .int .i64 u1, .int .i64 u2, .int .i64 u3, .int .i64 u4, .int .i64 u5])
            rw [setCells_putA]
            refine wpAny_done (by kernel_rfl) ?_ _
            generalize hW6 : putAg W5 g (k1 * 6) u0 u1 u2 u3 u4 u5 = W6
            have HW6 := Lib.hid (hW6.symm.trans (by rw [← HW5.out]))
            clear hW6 HW5
            go_wp2
            go_roundw
            case rel => exact ⟨t, k1, by go_num, HK1.out, by omega, by rw [HW6.out, ← NX.out]; exact SW.out⟩
            case measure => simp [intOf]; omega
          · go_simp
            refine hK _ _ ?_
            clear hK K
            refine wpAny_ready (rs := [9]) (by kernel_rfl) (by simp) ?_
            refine AllReady.cons rfl (fun K hK => ?_) AllReady.nil
            go_simp
            refine hK _ _ ?_
            clear hK K
            refine wpAny_take (oi := ⟨some 127, _, _, _, _, _⟩) (i := 14) (v := .pointer (some ⟨g, k * 6, none⟩)) rfl (by kernel_rfl) (by kernel_rfl) (by kernel_rfl) (fun _ _ _ h => h) (Or.inl ⟨by kernel_rfl, fun w => by go_simp⟩) ?_
            go_simp
            refine wpAny_ready (rs := [15]) (by kernel_rfl) (by simp) ?_
            refine AllReady.cons rfl (fun K hK => ?_) AllReady.nil
            rw [if_pos (by rfl)]
            refine wp_store_mid _ _ _ rfl g (k * 6) #[.int .i64 v0, .int .i64 v1, .int .i64 v2, .int .i64 v3, .int .i64 v4, .int .i64 v5] rfl rfl T1.out hinf (by simp [Value.oneCell']) ?_
            refine hK _ _ ?_
            clear hK K
            change wpAny _ _ _ _ _ _ _ (World.setCells (World.drew _) g (k * 6) [.int .i64 v0, .int .i64 v1, .int .i64 v2, .int .i64 v3, .int .i64 v4, .int .i64 v5])
            rw [setCells_putA]
            generalize hW5 : putAg wr.drew g (k * 6) v0 v1 v2 v3 v4 v5 = W5 at T2 ⊢
            have HW5 := Lib.hid hW5
            clear hW5
            refine wpAny_take (oi := ⟨some 128, _, _, _, _, _⟩) (i := 16) (v := .pointer (some ⟨g, k1 * 6, none⟩)) rfl (by kernel_rfl) (by kernel_rfl) (by kernel_rfl) (fun _ _ _ h => h) (Or.inl ⟨by kernel_rfl, fun w => by go_simp⟩) ?_
            go_simp
            refine wpAny_ready (rs := [17]) (by kernel_rfl) (by simp) ?_
            refine AllReady.cons rfl (fun K hK => ?_) AllReady.nil
            rw [if_pos (by rfl)]
            refine wp_store_mid _ _ _ rfl g (k1 * 6) #[.int .i64 u0, .int .i64 u1, .int .i64 u2, .int .i64 u3, .int .i64 u4, .int .i64 u5] rfl rfl T2.out hinf (by simp [Value.oneCell']) ?_
            refine hK _ _ ?_
            clear hK K
            change wpAny _ _ _ _ _ _ _ (World.setCells _ g (k1 * 6) [.int .i64 u0, .int .i64 u1, .int .i64 u2, .int .i64 u3, .int .i64 u4, .int .i64 u5])
            rw [setCells_putA]
            refine wpAny_done (by kernel_rfl) ?_ _
            generalize hW6 : putAg W5 g (k1 * 6) u0 u1 u2 u3 u4 u5 = W6
            have HW6 := Lib.hid (hW6.symm.trans (by rw [← HW5.out]))
            clear hW6 HW5
            go_wp2
            go_roundw
            case rel => exact ⟨t, k1, by go_num, HK1.out, by omega, by rw [HW6.out, ← NX.out]; exact SW.out⟩
            case measure => simp [intOf]; omega

end Go.Proofs.Ytchbmnpajnlijaa
