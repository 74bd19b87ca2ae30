/- slices.symMergeCmpFunc over aggs. (made by tools/mkstab.py) -/
import Derived.Test.YtchbmnpajnlijaaStab6
import Derived.Deep.CutRange
namespace Go.Proofs.Ytchbmnpajnlijaa
open Go.RowKit Stab
theorem sym_split {L P X Y S : List Ag} {a m b s e : Nat} (hL : L = P ++ X ++ Y ++ S) (ha : a = P.length) (hm : m = a + X.length) (hb : b = m + Y.length) (h1 : a ≤ s) (h2 : s ≤ m) (h3 : m ≤ e) (h4 : e ≤ b)
    (c1 : ∀ i, a ≤ i → i < s → ∀ j, e ≤ j → j < b → aheadA (ael L j) (ael L i) = false) (c2 : ∀ i, s ≤ i → i < m → ∀ j, m ≤ j → j < e → aheadA (ael L j) (ael L i) = true) :
    (∀ x, x ∈ X.take (s - a) → ∀ y, y ∈ Y.drop (e - m) → aheadA y x = false) ∧ (∀ x, x ∈ X.drop (s - a) → ∀ y, y ∈ Y.take (e - m) → aheadA y x = true) := by
  have eX : ∀ t, t < X.length → ael L (a + t) = ael X t := fun t ht => by
    rw [ha]; exact ael_mid (P := P) (X := X) (R := Y ++ S) (by rw [hL]; simp) ht
  have eY : ∀ t, t < Y.length → ael L (m + t) = ael Y t := fun t ht => by
    have := ael_mid (P := P ++ X) (X := Y) (R := S) (L := L) (by rw [hL]) ht
    rw [List.length_append, ← ha, ← hm] at this
    exact this
  constructor
  · intro x hx y hy
    obtain ⟨t, ht, rfl⟩ := mem_ael hx
    obtain ⟨u, hu, rfl⟩ := mem_ael hy
    rw [List.length_take] at ht
    rw [List.length_drop] at hu
    rw [ael_take_lt (by omega), ael_drop, ← eX _ (by omega), ← eY _ (by omega)]
    exact c1 _ (by omega) (by omega) _ (by omega) (by omega)
  · intro x hx y hy
    obtain ⟨t, ht, rfl⟩ := mem_ael hx
    obtain ⟨u, hu, rfl⟩ := mem_ael hy
    rw [List.length_take] at hu
    rw [List.length_drop] at ht
    rw [ael_take_lt (by omega), ael_drop, ← eX _ (by omega), ← eY _ (by omega)]
    exact c2 _ (by omega) (by omega) _ (by omega) (by omega)
set_option maxHeartbeats 16000000 in
set_option maxRecDepth 100000 in
theorem symMerge_x (g c lo n : Nat) (hbig : n ≤ 4294967296) : ∀ (d a m b : Nat) (P X Y S : List Ag) (w : World), w.ownsRow lo 86 6 (.slice (some ⟨g, 0, none⟩) n c) n (flatA (P ++ X ++ Y ++ S)) → a = P.length → m = a + X.length → b = m + Y.length → 0 < X.length → 0 < Y.length → Srt aheadA X → Srt aheadA Y → b - a ≤ d →
    Calls Try.prog 135 #[(.slice (some ⟨g, 0, none⟩) n c), .int .i64 (a : Int), .int .i64 (m : Int), .int .i64 (b : Int), .func (.func 106) #[] #[]] w fun e w' => e = .returned (.tuple #[]) ∧ Merged 86 g c lo n P X Y S w w' := by
  intro d
  induction d with
  | zero => intro a m b P X Y S w _ _ _ _ _ _ _ _ _; omega
  | succ d ih =>
  intro a m b P X Y S w h ha hm hb hX0 hY0 hX hY hd
  by_cases hx1 : X.length = 1
  · obtain ⟨x, rfl⟩ := List.length_eq_one_iff.1 hx1
    exact sym_front g c lo n a m b P Y S x w h ha (by simpa using hm) hb hY0 hY hbig
  by_cases hy1 : Y.length = 1
  · obtain ⟨x, rfl⟩ := List.length_eq_one_iff.1 hy1
    exact sym_back g c lo n a m b P X S x w h ha hm (by simpa using hb) (by omega) hX hbig
  have hn : n = P.length + X.length + Y.length + S.length := by rw [(Rt.start h).len]; simp; omega
  have hbn : b ≤ n := by omega
  have hmb : m < b := by omega
  have ham : a < m := by omega
  obtain ⟨L, hL⟩ : ∃ L, L = P ++ X ++ Y ++ S := ⟨_, rfl⟩
  have R0 := Lib.hid (Rt.start h)
  rw [← hL] at R0
  have IH := Lib.hid ih
  have SX := Lib.hid (srtOn_mid (P := P) (X := X) (R := Y ++ S) (L := L) (by rw [hL]; simp) hX (a := a) (b := m) ha (by omega))
  have SY := Lib.hid (srtOn_mid (P := P ++ X) (X := Y) (R := S) (L := L) hL hY (a := m) (b := b) (by simp; omega) (by simp; omega))
  have EL := Lib.hid hL
  have HA := Lib.hid ha
  have HM := Lib.hid hm
  have HB := Lib.hid hb
  have HXS := Lib.hid hX
  have HYS := Lib.hid hY
  have HD := Lib.hid hd
  obtain ⟨mid, hmid⟩ : ∃ mid, mid = (a + b) / 2 := ⟨_, rfl⟩
  obtain ⟨nn, hnn⟩ : ∃ nn, nn = mid + m := ⟨_, rfl⟩
  obtain ⟨p, hp⟩ : ∃ p, p = mid + m - 1 := ⟨_, rfl⟩
  obtain ⟨s0, r0, h0⟩ : ∃ s0 r0 : Nat, mid < m ∧ s0 = mid + m - b ∧ r0 = mid ∨ m ≤ mid ∧ s0 = a ∧ r0 = m := by
    by_cases h9 : mid < m
    · exact ⟨_, _, .inl ⟨h9, rfl, rfl⟩⟩
    · exact ⟨_, _, .inr ⟨by omega, rfl, rfl⟩⟩
  have hsr : s0 ≤ r0 := by omega
  have hmidlt : a < mid := by omega
  have hmidb : mid < b := by omega
  have wmid : ((a : Int) + (b : Int)) / 2 = (mid : Int) := by omega
  have wnn : IntKind.i64.wrap ((mid : Int) + (m : Int)) = (nn : Int) := by rw [show (mid : Int) + (m : Int) = (nn : Int) by omega]; exact IntWalk.i64_in _ (by omega)
  have wp_ : IntKind.i64.wrap ((nn : Int) - 1) = (p : Int) := by rw [show (nn : Int) - 1 = (p : Int) by omega]; exact IntWalk.i64_in _ (by omega)
  have P0 : Hid (SymI aheadA (ael L) p s0 r0 s0 r0) := Lib.hid ⟨Nat.le_refl _, hsr, Nat.le_refl _, fun h => absurd h (by omega), fun h => absurd h (by omega)⟩
  obtain ⟨d1, hd1⟩ : ∃ d1, d1 = m - a := ⟨_, rfl⟩
  have wm : IntKind.i64.wrap ((m : Int) - (a : Int)) = (d1 : Int) := by rw [show (m : Int) - (a : Int) = (d1 : Int) by omega]; exact IntWalk.i64_in _ (by omega)
  have hne : ((d1 : Int) == 1) = false := by simp; omega
  obtain ⟨d2, hd2⟩ : ∃ d2, d2 = b - m := ⟨_, rfl⟩
  have wb : IntKind.i64.wrap ((b : Int) - (m : Int)) = (d2 : Int) := by rw [show (b : Int) - (m : Int) = (d2 : Int) by omega]; exact IntWalk.i64_in _ (by omega)
  have hne2 : ((d2 : Int) == 1) = false := by simp; omega
  have H0 := Lib.hid h0
  have HMID := Lib.hid hmid
  have HNN := Lib.hid hnn
  have HP_ := Lib.hid hp
  have hs0a : a ≤ s0 := by omega
  have hr0m : r0 ≤ m := by omega
  have hpn : p < n + n := by omega
  have hps : p + 1 ≤ s0 + b := by omega
  have hpr : m + r0 ≤ p + 1 := by omega
  clear h ha hm hb hX hY hL hn hX0 hY0 hd1 hd2 h0 hmid hnn hp hx1 hy1 hd ih
  go_enter Try.func135, Try.ntmps135
  go_upto_if 140 with fail
  go_cut [20, 21] from 138 to 146 (fun x y wx => x = .int .i64 (s0 : Int) ∧ y = .int .i64 (r0 : Int) ∧ Rt 86 g c lo n w wx L)
  case first =>
    rcases H0.out with ⟨k1, k2, k3⟩ | ⟨k1, k2, k3⟩
    · have q1 : (mid : Int) < (m : Int) := by omega
      have ws : IntKind.i64.wrap ((nn : Int) - (b : Int)) = (s0 : Int) := by rw [show (nn : Int) - (b : Int) = (s0 : Int) by have := HNN.out; omega]; exact IntWalk.i64_in _ (by omega)
      have E3 := Lib.hid k3
      clear k2 k3
      go_wp2
      go_meet
      case rel => exact ⟨rfl, by rw [E3.out], R0.out⟩
    · have q1 : ¬ (mid : Int) < (m : Int) := by omega
      have E2 := Lib.hid k2
      have E3 := Lib.hid k3
      clear k2 k3
      go_wp2
      go_meet
      case rel => exact ⟨by rw [E2.out], by rw [E3.out], R0.out⟩
  case rest =>
  obtain ⟨rfl, rfl, hr0⟩ := hcut
  have R0 := Lib.hid hr0
  clear hr0
  go_wp2
  go_loopw [20, 21] (fun vx vy wr => ∃ i j : Nat, vx = .int .i64 (i : Int) ∧ vy = .int .i64 (j : Int) ∧ SymI aheadA (ael L) p s0 r0 i j ∧ Rt 86 g c lo n w wr L) (fun vx vy _ => (intOf vy).toNat - (intOf vx).toNat)
  case atStart => exact ⟨s0, r0, rfl, rfl, P0.out, R0.out⟩
  case round =>
    obtain ⟨i, j, rfl, rfl, hp, hr⟩ := hrel
    have HP := Lib.hid hp
    have R := Lib.hid hr
    have b1 := hp.lo
    have b2 := hp.le
    have b3 := hp.hi
    clear hp hr
    by_cases hij : i < j
    · obtain ⟨h, hh⟩ : ∃ h, h = (i + j) / 2 := ⟨_, rfl⟩
      have hsum : ((i : Int) + (j : Int)) / 2 = (h : Int) := by omega
      have hij' : (i : Int) < (j : Int) := by omega
      have hih : i ≤ h := by omega
      have hhj : h < j := by omega
      obtain ⟨h1, hh1⟩ : ∃ h1, h1 = h + 1 := ⟨_, rfl⟩
      have wh : IntKind.i64.wrap ((h : Int) + 1) = (h1 : Int) := by rw [show (h : Int) + 1 = (h1 : Int) by omega]; exact IntWalk.i64_in _ (by omega)
      clear hh
      obtain ⟨pc, hpc⟩ : ∃ pc, pc = p - h := ⟨_, rfl⟩
      have wpc : IntKind.i64.wrap ((p : Int) - (h : Int)) = (pc : Int) := by rw [show (p : Int) - (h : Int) = (pc : Int) by omega]; exact IntWalk.i64_in _ (by omega)
      have hpcn : pc < n := by omega
      have HPC := Lib.hid hpc
      have hhn : h < n := by omega
      have hhp : h ≤ p := by omega
      clear hpc
      cases hAB : aheadA (ael L pc) (ael L h) with
      | true =>
        have NEW : Hid (∃ i2 j2 : Nat, Value.int .i64 (i : Int) = .int .i64 (i2 : Int) ∧ Value.int .i64 (h : Int) = .int .i64 (j2 : Int) ∧ SymI aheadA (ael L) p s0 r0 i2 j2) := Lib.hid ⟨i, h, rfl, rfl, HP.out.down hih hhj (by rw [← HPC.out]; exact hAB)⟩
        have hms : h - i < j - i := by omega
        clear hh1
        have hLn := R.out.len
        have CE : Hid (∀ W9, Below wr.heap.size wr W9 → W9.cell? ⟨g, pc * 6, none⟩ = some (.int .i64 (ael (L) pc).win) ∧ W9.cell? ⟨g, pc * 6 + 1, none⟩ = some (.int .i64 (ael (L) pc).key) ∧ W9.cell? ⟨g, pc * 6 + 2, none⟩ = some (.int .i64 (ael (L) pc).cnt) ∧ W9.cell? ⟨g, pc * 6 + 3, none⟩ = some (.int .i64 (ael (L) pc).sum) ∧ W9.cell? ⟨g, pc * 6 + 4, none⟩ = some (.int .i64 (ael (L) pc).mn) ∧ W9.cell? ⟨g, pc * 6 + 5, none⟩ = some (.int .i64 (ael (L) pc).mx) ∧ W9.cell? ⟨g, h * 6, none⟩ = some (.int .i64 (ael (L) h).win) ∧ W9.cell? ⟨g, h * 6 + 1, none⟩ = some (.int .i64 (ael (L) h).key) ∧ W9.cell? ⟨g, h * 6 + 2, none⟩ = some (.int .i64 (ael (L) h).cnt) ∧ W9.cell? ⟨g, h * 6 + 3, none⟩ = some (.int .i64 (ael (L) h).sum) ∧ W9.cell? ⟨g, h * 6 + 4, none⟩ = some (.int .i64 (ael (L) h).mn) ∧ W9.cell? ⟨g, h * 6 + 5, none⟩ = some (.int .i64 (ael (L) h).mx)) := Lib.hid (fun W9 hb9 => by
          have o9 := (R.out.below hb9).own
          obtain ⟨p0, p1, p2, p3, p4, p5⟩ := own_ag o9 pc (by omega)
          obtain ⟨r0, r1, r2, r3, r4, r5⟩ := own_ag o9 h (by omega)
          exact ⟨p0, p1, p2, p3, p4, p5, r0, r1, r2, r3, r4, r5⟩)
        have hX : cmpA (ael (L) pc) (ael (L) h) < 0 := cmpA_neg.2 hAB
        have hi0 : (0 : Int) ≤ (pc : Int) := by omega
        have hi1 : (pc : Int) < (n : Int) := by omega
        have hj0 : (0 : Int) ≤ (h : Int) := by omega
        have hj1 : (h : Int) < (n : Int) := by omega
        clear hLn hAB
        generalize hX9 : ael (L) pc = X9 at CE hX
        generalize hY9 : ael (L) h = Y9 at CE hX
        obtain ⟨u0, u1, u2, u3, u4, u5⟩ := X9
        obtain ⟨v0, v1, v2, v3, v4, v5⟩ := Y9
        simp only at CE hX
        have EX := Lib.hid hX9
        have EY := Lib.hid hY9
        clear hX9 hY9
        have CM := Lib.hid (fun W => cmpA_x u0 u1 u2 u3 u4 u5 v0 v1 v2 v3 v4 v5 W)
        generalize cmpA ⟨u0, u1, u2, u3, u4, u5⟩ ⟨v0, v1, v2, v3, v4, v5⟩ = z9 at CM hX
        have hXd : decide (z9 < 0) = true := decide_eq_true hX
        have hXn : (!decide (z9 < 0)) = false := by rw [hXd]; rfl
        obtain ⟨q0, q1, q2, q3, q4, q5, t0, t1, t2, t3, t4, t5⟩ := CE.out wr.drew ((Below.refl _ _).drew)
        go_wp2_with fail
        go_region_held3 (fun W => W.cell? ⟨g, pc * 6, none⟩ = some (.int .i64 u0) ∧ W.cell? ⟨g, pc * 6 + 1, none⟩ = some (.int .i64 u1) ∧ W.cell? ⟨g, pc * 6 + 2, none⟩ = some (.int .i64 u2) ∧ W.cell? ⟨g, pc * 6 + 3, none⟩ = some (.int .i64 u3) ∧ W.cell? ⟨g, pc * 6 + 4, none⟩ = some (.int .i64 u4) ∧ W.cell? ⟨g, pc * 6 + 5, none⟩ = some (.int .i64 u5) ∧ W.cell? ⟨g, h * 6, none⟩ = some (.int .i64 v0) ∧ W.cell? ⟨g, h * 6 + 1, none⟩ = some (.int .i64 v1) ∧ W.cell? ⟨g, h * 6 + 2, none⟩ = some (.int .i64 v2) ∧ W.cell? ⟨g, h * 6 + 3, none⟩ = some (.int .i64 v3) ∧ W.cell? ⟨g, h * 6 + 4, none⟩ = some (.int .i64 v4) ∧ W.cell? ⟨g, h * 6 + 5, none⟩ = some (.int .i64 v5))
          (exact ⟨q0, q1, q2, q3, q4, q5, t0, t1, t2, t3, t4, t5⟩)
          (first | (go_at_call 106; refine (CM.out _).mono ?_; rintro e w2 ⟨rfl, hb⟩; have R := Lib.hid (R.out.drew.below hb); obtain ⟨q0, q1, q2, q3, q4, q5, t0, t1, t2, t3, t4, t5⟩ := CE.out w2 ((Below.refl _ _).drew.trans hb); clear hb))
        all_goals
          clear q0 q1 q2 q3 q4 q5 t0 t1 t2 t3 t4 t5
          go_wp2
          go_roundw
          case rel => obtain ⟨i2, j2, e1, e2, hp2⟩ := NEW.out; exact ⟨i2, j2, e1, e2, hp2, R.out⟩
          case measure => simp [intOf]; omega
      | false =>
        have NEW : Hid (∃ i2 j2 : Nat, Value.int .i64 (h1 : Int) = .int .i64 (i2 : Int) ∧ Value.int .i64 (j : Int) = .int .i64 (j2 : Int) ∧ SymI aheadA (ael L) p s0 r0 i2 j2) := Lib.hid ⟨h1, j, rfl, rfl, (HP.out.up hih hhj hhp (by rw [← HPC.out]; exact hAB)) |> fun s => hh1 ▸ s⟩
        have hms : j - h1 < j - i := by omega
        clear hh1
        have hLn := R.out.len
        have CE : Hid (∀ W9, Below wr.heap.size wr W9 → W9.cell? ⟨g, pc * 6, none⟩ = some (.int .i64 (ael (L) pc).win) ∧ W9.cell? ⟨g, pc * 6 + 1, none⟩ = some (.int .i64 (ael (L) pc).key) ∧ W9.cell? ⟨g, pc * 6 + 2, none⟩ = some (.int .i64 (ael (L) pc).cnt) ∧ W9.cell? ⟨g, pc * 6 + 3, none⟩ = some (.int .i64 (ael (L) pc).sum) ∧ W9.cell? ⟨g, pc * 6 + 4, none⟩ = some (.int .i64 (ael (L) pc).mn) ∧ W9.cell? ⟨g, pc * 6 + 5, none⟩ = some (.int .i64 (ael (L) pc).mx) ∧ W9.cell? ⟨g, h * 6, none⟩ = some (.int .i64 (ael (L) h).win) ∧ W9.cell? ⟨g, h * 6 + 1, none⟩ = some (.int .i64 (ael (L) h).key) ∧ W9.cell? ⟨g, h * 6 + 2, none⟩ = some (.int .i64 (ael (L) h).cnt) ∧ W9.cell? ⟨g, h * 6 + 3, none⟩ = some (.int .i64 (ael (L) h).sum) ∧ W9.cell? ⟨g, h * 6 + 4, none⟩ = some (.int .i64 (ael (L) h).mn) ∧ W9.cell? ⟨g, h * 6 + 5, none⟩ = some (.int .i64 (ael (L) h).mx)) := Lib.hid (fun W9 hb9 => by
          have o9 := (R.out.below hb9).own
          obtain ⟨p0, p1, p2, p3, p4, p5⟩ := own_ag o9 pc (by omega)
          obtain ⟨r0, r1, r2, r3, r4, r5⟩ := own_ag o9 h (by omega)
          exact ⟨p0, p1, p2, p3, p4, p5, r0, r1, r2, r3, r4, r5⟩)
        have hX : ¬ cmpA (ael (L) pc) (ael (L) h) < 0 := fun h9 => by rw [cmpA_neg.1 h9] at hAB; cases hAB
        have hi0 : (0 : Int) ≤ (pc : Int) := by omega
        have hi1 : (pc : Int) < (n : Int) := by omega
        have hj0 : (0 : Int) ≤ (h : Int) := by omega
        have hj1 : (h : Int) < (n : Int) := by omega
        clear hLn hAB
        generalize hX9 : ael (L) pc = X9 at CE hX
        generalize hY9 : ael (L) h = Y9 at CE hX
        obtain ⟨u0, u1, u2, u3, u4, u5⟩ := X9
        obtain ⟨v0, v1, v2, v3, v4, v5⟩ := Y9
        simp only at CE hX
        have EX := Lib.hid hX9
        have EY := Lib.hid hY9
        clear hX9 hY9
        have CM := Lib.hid (fun W => cmpA_x u0 u1 u2 u3 u4 u5 v0 v1 v2 v3 v4 v5 W)
        generalize cmpA ⟨u0, u1, u2, u3, u4, u5⟩ ⟨v0, v1, v2, v3, v4, v5⟩ = z9 at CM hX
        have hXd : decide (z9 < 0) = false := decide_eq_false hX
        have hXn : (!decide (z9 < 0)) = true := by rw [hXd]; rfl
        obtain ⟨q0, q1, q2, q3, q4, q5, t0, t1, t2, t3, t4, t5⟩ := CE.out wr.drew ((Below.refl _ _).drew)
        go_wp2_with fail
        go_region_held3 (fun W => W.cell? ⟨g, pc * 6, none⟩ = some (.int .i64 u0) ∧ W.cell? ⟨g, pc * 6 + 1, none⟩ = some (.int .i64 u1) ∧ W.cell? ⟨g, pc * 6 + 2, none⟩ = some (.int .i64 u2) ∧ W.cell? ⟨g, pc * 6 + 3, none⟩ = some (.int .i64 u3) ∧ W.cell? ⟨g, pc * 6 + 4, none⟩ = some (.int .i64 u4) ∧ W.cell? ⟨g, pc * 6 + 5, none⟩ = some (.int .i64 u5) ∧ W.cell? ⟨g, h * 6, none⟩ = some (.int .i64 v0) ∧ W.cell? ⟨g, h * 6 + 1, none⟩ = some (.int .i64 v1) ∧ W.cell? ⟨g, h * 6 + 2, none⟩ = some (.int .i64 v2) ∧ W.cell? ⟨g, h * 6 + 3, none⟩ = some (.int .i64 v3) ∧ W.cell? ⟨g, h * 6 + 4, none⟩ = some (.int .i64 v4) ∧ W.cell? ⟨g, h * 6 + 5, none⟩ = some (.int .i64 v5))
          (exact ⟨q0, q1, q2, q3, q4, q5, t0, t1, t2, t3, t4, t5⟩)
          (first | (go_at_call 106; refine (CM.out _).mono ?_; rintro e w2 ⟨rfl, hb⟩; have R := Lib.hid (R.out.drew.below hb); obtain ⟨q0, q1, q2, q3, q4, q5, t0, t1, t2, t3, t4, t5⟩ := CE.out w2 ((Below.refl _ _).drew.trans hb); clear hb))
        all_goals
          clear q0 q1 q2 q3 q4 q5 t0 t1 t2 t3 t4 t5
          go_wp2
          go_roundw
          case rel => obtain ⟨i2, j2, e1, e2, hp2⟩ := NEW.out; exact ⟨i2, j2, e1, e2, hp2, R.out⟩
          case measure => simp [intOf]; omega
    · obtain rfl : i = j := by omega
      have hij' : ¬ (i : Int) < (i : Int) := by omega
      obtain ⟨e, he⟩ : ∃ e, e = nn - i := ⟨_, rfl⟩
      have EN := SymI.end_ swoA HMID.out ham hmb H0.out SX.out SY.out (by have := HP.out; rw [HP_.out] at this; exact this)
      rw [← HNN.out, ← he] at EN
      obtain ⟨n1, n2, n3, n4, n5, n6⟩ := EN
      have hen : i + (e - m) = mid := by have := HNN.out; omega
      have he2 : e = mid + (m - i) := by have := HNN.out; omega
      have we : IntKind.i64.wrap ((nn : Int) - (i : Int)) = (e : Int) := by rw [show (nn : Int) - (i : Int) = (e : Int) by omega]; exact IntWalk.i64_in _ (by have := HNN.out; omega)
      have SPL := Lib.hid (sym_split EL.out HA.out HM.out HB.out n1 n2 n3 n4 n5 n6)
      obtain ⟨X1, hX1⟩ : ∃ X1, X1 = X.take (i - a) := ⟨_, rfl⟩
      obtain ⟨X2, hX2⟩ : ∃ X2, X2 = X.drop (i - a) := ⟨_, rfl⟩
      obtain ⟨Y1, hY1⟩ : ∃ Y1, Y1 = Y.take (e - m) := ⟨_, rfl⟩
      obtain ⟨Y2, hY2⟩ : ∃ Y2, Y2 = Y.drop (e - m) := ⟨_, rfl⟩
      have HXX : Hid (X1 ++ X2 = X) := Lib.hid (by rw [hX1, hX2]; exact List.take_append_drop _ _)
      have HYY : Hid (Y1 ++ Y2 = Y) := Lib.hid (by rw [hY1, hY2]; exact List.take_append_drop _ _)
      have L1 : Hid (X1.length = i - a) := Lib.hid (by rw [hX1, List.length_take]; have := HM.out; omega)
      have L2 : Hid (X2.length = m - i) := Lib.hid (by rw [hX2, List.length_drop]; have := HM.out; omega)
      have L3 : Hid (Y1.length = e - m) := Lib.hid (by rw [hY1, List.length_take]; have := HB.out; omega)
      have L4 : Hid (Y2.length = b - e) := Lib.hid (by rw [hY2, List.length_drop]; have := HB.out; omega)
      rw [← hX1, ← hX2, ← hY1, ← hY2] at SPL
      have R := Lib.hid (by have := R.out; rw [EL.out, ← HXX.out, ← HYY.out, show P ++ (X1 ++ X2) ++ (Y1 ++ Y2) ++ S = (P ++ X1) ++ X2 ++ Y1 ++ (Y2 ++ S) by simp] at this; exact this : Rt 86 g c lo n w wr ((P ++ X1) ++ X2 ++ Y1 ++ (Y2 ++ S)))
      have HE2 := Lib.hid he2
      have HEN := Lib.hid hen
      clear hX1 hX2 hY1 hY2 he he2 hen n5 n6 HP
      obtain ⟨cA, hcA⟩ : ∃ q : Bool, q = (decide (i < m) && decide (m < e)) := ⟨_, rfl⟩
      have HcA := Lib.hid hcA
      clear hcA
      go_upto_region 39 with fail
      go_cut [185] from 178 to 185 (fun v wx => v = .bool cA ∧ Rt 86 g c lo n w wx ((P ++ X1) ++ X2 ++ Y1 ++ (Y2 ++ S)))
      case first =>
        by_cases p1 : i < m
        · have q1 : (i : Int) < (m : Int) := by omega
          have d1 : decide ((i : Int) < (m : Int)) = true := decide_eq_true q1
          by_cases p2 : m < e
          · have q2 : (m : Int) < (e : Int) := by omega
            have d2 : decide ((m : Int) < (e : Int)) = true := decide_eq_true q2
            obtain rfl : cA = true := by rw [HcA.out]; simp [p1, p2]
            go_wp2
            go_meet
            case rel => exact ⟨rfl, R.out⟩
          · have q2 : ¬ (m : Int) < (e : Int) := by omega
            have d2 : decide ((m : Int) < (e : Int)) = false := decide_eq_false q2
            obtain rfl : cA = false := by rw [HcA.out]; simp [p2]
            go_wp2
            go_meet
            case rel => exact ⟨rfl, R.out⟩
        · have q1 : ¬ (i : Int) < (m : Int) := by omega
          have d1 : decide ((i : Int) < (m : Int)) = false := decide_eq_false q1
          obtain rfl : cA = false := by rw [HcA.out]; simp [p1]
          go_wp2
          go_meet
          case rel => exact ⟨rfl, R.out⟩
      case rest =>
      obtain ⟨rfl, hr0⟩ := hcut
      have R := Lib.hid hr0
      clear hr0
      go_upto_if 185 with fail
      go_cut [186] from 186 to 191 (fun _ wx => Rt 86 g c lo n w wx ((P ++ X1) ++ Y1 ++ (X2 ++ Y2 ++ S)))
      case first =>
        cases cA with
        | true =>
          have hh : i < m ∧ m < e := by have := HcA.out.symm; simpa using this
          have C := Lib.hid (rotate_x (.func (.func 106) #[] #[]) g c lo n i m e (P ++ X1) X2 Y1 (Y2 ++ S) wc R.out.own (by have := L1.out; have := HA.out; simp; omega) (by have := L1.out; have := L2.out; have := HA.out; simp; omega) (by have := L1.out; have := L2.out; have := L3.out; have := HA.out; simp; omega) (by have := L2.out; omega) (by have := L3.out; omega))
          go_wp2_with fail
          refine C.out.mono ?_
          rintro e9 w' ⟨rfl, hr⟩
          have R2 := Lib.hid (R.out.trans hr)
          clear hr
          go_wp2
          go_meet
          case rel => (have := R2.out; rw [show (P ++ X1) ++ Y1 ++ X2 ++ (Y2 ++ S) = (P ++ X1) ++ Y1 ++ (X2 ++ Y2 ++ S) by simp] at this; exact this)
        | false =>
          have R2 : Hid (Rt 86 g c lo n w wc ((P ++ X1) ++ Y1 ++ (X2 ++ Y2 ++ S))) := Lib.hid (by
            have hh : ¬ (i < m ∧ m < e) := fun h9 => by have := HcA.out; simp [h9.1, h9.2] at this
            have := R.out
            by_cases h9 : i < m
            · have : Y1 = [] := List.length_eq_zero_iff.1 (by have := L3.out; omega)
              subst this; simpa using R.out
            · have : X2 = [] := List.length_eq_zero_iff.1 (by have := L2.out; omega)
              subst this; simpa using R.out)
          go_wp2
          go_meet
          case rel => exact R2.out
      case rest =>
      have R := Lib.hid hcut
      clear hcut
      obtain ⟨cB, hcB⟩ : ∃ q : Bool, q = (decide (a < i) && decide (i < mid)) := ⟨_, rfl⟩
      have HcB := Lib.hid hcB
      clear hcB
      go_upto_region 41 with fail
      go_cut [199] from 192 to 199 (fun v wx => v = .bool cB ∧ Rt 86 g c lo n w wx ((P ++ X1) ++ Y1 ++ (X2 ++ Y2 ++ S)))
      case first =>
        by_cases p1 : a < i
        · have q1 : (a : Int) < (i : Int) := by omega
          have d1 : decide ((a : Int) < (i : Int)) = true := decide_eq_true q1
          by_cases p2 : i < mid
          · have q2 : (i : Int) < (mid : Int) := by omega
            have d2 : decide ((i : Int) < (mid : Int)) = true := decide_eq_true q2
            obtain rfl : cB = true := by rw [HcB.out]; simp [p1, p2]
            go_wp2
            go_meet
            case rel => exact ⟨rfl, R.out⟩
          · have q2 : ¬ (i : Int) < (mid : Int) := by omega
            have d2 : decide ((i : Int) < (mid : Int)) = false := decide_eq_false q2
            obtain rfl : cB = false := by rw [HcB.out]; simp [p2]
            go_wp2
            go_meet
            case rel => exact ⟨rfl, R.out⟩
        · have q1 : ¬ (a : Int) < (i : Int) := by omega
          have d1 : decide ((a : Int) < (i : Int)) = false := decide_eq_false q1
          obtain rfl : cB = false := by rw [HcB.out]; simp [p1]
          go_wp2
          go_meet
          case rel => exact ⟨rfl, R.out⟩
      case rest =>
      obtain ⟨rfl, hr0⟩ := hcut
      have R := Lib.hid hr0
      clear hr0
      go_upto_if 199 with fail
      go_cut [200] from 200 to 205 (fun _ wx => Merged 86 g c lo n P X1 Y1 (X2 ++ Y2 ++ S) w wx)
      case first =>
        cases cB with
        | true =>
          have hh : a < i ∧ i < mid := by have := HcB.out.symm; simpa using this
          have C := Lib.hid (IH.out a i mid P X1 Y1 (X2 ++ Y2 ++ S) wc R.out.own HA.out (by have := L1.out; omega) (by have := L3.out; have := HEN.out; omega) (by have := L1.out; omega) (by have := L3.out; have := HEN.out; omega) (by have := HXS.out; rw [← HXX.out] at this; exact (srt_app.1 this).1) (by have := HYS.out; rw [← HYY.out] at this; exact (srt_app.1 this).1) (by have := HD.out; omega))
          go_wp2_with fail
          refine C.out.mono ?_
          rintro e9 w' ⟨rfl, hr⟩
          have R2 : Hid (Merged 86 g c lo n P X1 Y1 (X2 ++ Y2 ++ S) w w') := Lib.hid (by obtain ⟨Z, hz, hr⟩ := hr; exact ⟨Z, hz, R.out.trans hr⟩)
          clear hr
          go_wp2
          go_meet
          case rel => exact R2.out
        | false =>
          have R2 : Hid (Merged 86 g c lo n P X1 Y1 (X2 ++ Y2 ++ S) w wc) := Lib.hid (by
            have hh : ¬ (a < i ∧ i < mid) := fun h9 => by have := HcB.out; simp [h9.1, h9.2] at this
            refine ⟨X1 ++ Y1, StS.self ?_, R.out |> fun r => by simpa using r⟩
            have s1 : Srt aheadA X1 := by have := HXS.out; rw [← HXX.out] at this; exact (srt_app.1 this).1
            have s2 : Srt aheadA Y1 := by have := HYS.out; rw [← HYY.out] at this; exact (srt_app.1 this).1
            by_cases h9 : a < i
            · have : Y1 = [] := List.length_eq_zero_iff.1 (by have := L3.out; have := HEN.out; omega)
              subst this; simpa using s1
            · have : X1 = [] := List.length_eq_zero_iff.1 (by have := L1.out; omega)
              subst this; simpa using s2)
          go_wp2
          go_meet
          case rel => exact R2.out
      case rest =>
      have RB := Lib.hid hcut
      clear hcut
      obtain ⟨Z1, hz1, hr1⟩ := RB.out
      have ZZ := Lib.hid hz1
      have R := Lib.hid (by rw [show P ++ Z1 ++ (X2 ++ Y2 ++ S) = (P ++ Z1) ++ X2 ++ Y2 ++ S by simp] at hr1; exact hr1 : Rt 86 g c lo n w wc ((P ++ Z1) ++ X2 ++ Y2 ++ S))
      clear RB hz1 hr1
      have L5 : Hid (Z1.length = (i - a) + (e - m)) := Lib.hid (by rw [ZZ.out.kin.len, List.length_append, L1.out, L3.out])
      obtain ⟨cC, hcC⟩ : ∃ q : Bool, q = (decide (mid < e) && decide (e < b)) := ⟨_, rfl⟩
      have HcC := Lib.hid hcC
      clear hcC
      go_upto_region 43 with fail
      go_cut [213] from 206 to 213 (fun v wx => v = .bool cC ∧ Rt 86 g c lo n w wx ((P ++ Z1) ++ X2 ++ Y2 ++ S))
      case first =>
        by_cases p1 : mid < e
        · have q1 : (mid : Int) < (e : Int) := by omega
          have d1 : decide ((mid : Int) < (e : Int)) = true := decide_eq_true q1
          by_cases p2 : e < b
          · have q2 : (e : Int) < (b : Int) := by omega
            have d2 : decide ((e : Int) < (b : Int)) = true := decide_eq_true q2
            obtain rfl : cC = true := by rw [HcC.out]; simp [p1, p2]
            go_wp2
            go_meet
            case rel => exact ⟨rfl, R.out⟩
          · have q2 : ¬ (e : Int) < (b : Int) := by omega
            have d2 : decide ((e : Int) < (b : Int)) = false := decide_eq_false q2
            obtain rfl : cC = false := by rw [HcC.out]; simp [p2]
            go_wp2
            go_meet
            case rel => exact ⟨rfl, R.out⟩
        · have q1 : ¬ (mid : Int) < (e : Int) := by omega
          have d1 : decide ((mid : Int) < (e : Int)) = false := decide_eq_false q1
          obtain rfl : cC = false := by rw [HcC.out]; simp [p1]
          go_wp2
          go_meet
          case rel => exact ⟨rfl, R.out⟩
      case rest =>
      obtain ⟨rfl, hr0⟩ := hcut
      have R := Lib.hid hr0
      clear hr0
      cases cC with
      | true =>
        have hh : mid < e ∧ e < b := by have := HcC.out.symm; simpa using this
        have C := Lib.hid (IH.out mid e b (P ++ Z1) X2 Y2 S wc R.out.own (by have := L5.out; have := HA.out; have := HEN.out; simp; omega) (by have := L2.out; have := HE2.out; omega) (by have := L4.out; omega) (by have := L2.out; have := HE2.out; omega) (by have := L4.out; omega) (by have := HXS.out; rw [← HXX.out] at this; exact (srt_app.1 this).2.1) (by have := HYS.out; rw [← HYY.out] at this; exact (srt_app.1 this).2.1) (by have := HD.out; omega))
        go_wp2_with fail
        refine C.out.mono ?_
        rintro e9 w' ⟨rfl, hr⟩
        have R2 : Hid (Merged 86 g c lo n P X Y S w w') := Lib.hid (by
          obtain ⟨Z2, hz, hr⟩ := hr
          refine ⟨Z1 ++ Z2, ?_, ?_⟩
          · rw [← HXX.out, ← HYY.out]
            exact StS.sym swoA (by rw [HXX.out]; exact HXS.out) (by rw [HYY.out]; exact HYS.out) SPL.out.1 SPL.out.2 ZZ.out hz
          · have := R.out.trans hr
            simpa using this)
        clear hr
        go_wp2
        go_end0
        exact ⟨rfl, R2.out⟩
      | false =>
        have R2 : Hid (Merged 86 g c lo n P X Y S w wc) := Lib.hid (by
          have hh : ¬ (mid < e ∧ e < b) := fun h9 => by have := HcC.out; simp [h9.1, h9.2] at this
          have s1 : Srt aheadA X2 := by have := HXS.out; rw [← HXX.out] at this; exact (srt_app.1 this).2.1
          have s2 : Srt aheadA Y2 := by have := HYS.out; rw [← HYY.out] at this; exact (srt_app.1 this).2.1
          have s3 : Srt aheadA (X2 ++ Y2) := by
            by_cases h9 : mid < e
            · have : Y2 = [] := List.length_eq_zero_iff.1 (by have := L4.out; omega)
              subst this; simpa using s1
            · have : X2 = [] := List.length_eq_zero_iff.1 (by have := L2.out; have := HE2.out; omega)
              subst this; simpa using s2
          refine ⟨Z1 ++ (X2 ++ Y2), ?_, R.out |> fun r => by simpa using r⟩
          rw [← HXX.out, ← HYY.out]
          exact StS.sym swoA (by rw [HXX.out]; exact HXS.out) (by rw [HYY.out]; exact HYS.out) SPL.out.1 SPL.out.2 ZZ.out (StS.self s3))
        go_wp2
        go_end0
        exact ⟨rfl, R2.out⟩

end Go.Proofs.Ytchbmnpajnlijaa
