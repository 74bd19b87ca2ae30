/- slices.SortStableFunc over aggs. (made by tools/mkstab.py) -/
import Derived.Test.YtchbmnpajnlijaaStab8
namespace Go.Proofs.Ytchbmnpajnlijaa
open Go.RowKit Stab
set_option maxHeartbeats 8000000 in
set_option maxRecDepth 100000 in
theorem stable_x (g c lo n : Nat) (X : List Ag) (w : World) (h : w.ownsRow lo 86 6 (.slice (some ⟨g, 0, none⟩) n c) n (flatA X)) (hbig : n ≤ 4194304) :
    Calls Try.prog 110 #[(.slice (some ⟨g, 0, none⟩) n c), .int .i64 (n : Int), .func (.func 106) #[] #[]] w fun e w' => e = .returned (.tuple #[]) ∧ ∃ Z, StS aheadA Z X ∧ Rt 86 g c lo n w w' Z := by
  have R0 := Lib.hid (Rt.start h)
  have HN := Lib.hid R0.out.len
  clear h
  go_enter Try.func110, Try.ntmps110
  go_wp2
  go_loopg [7, 8] n (fun gk x y wr => ∃ (k a b : Nat) (L : List Ag), n + 20 = gk + b ∧ x = .int .i64 (a : Int) ∧ y = .int .i64 (b : Int) ∧ a = k * 20 ∧ b = a + 20 ∧ a ≤ n ∧ Kin aheadA L X ∧ BS1 L 20 a ∧ Rt 86 g c lo n w wr L)
  case atStart => exact ⟨0, 0, 20, X, rfl, rfl, rfl, by omega, rfl, Nat.zero_le _, Kin.refl _, fun i j _ h => absurd h (by omega), R0.out⟩
  case round =>
    obtain ⟨k, a, b, L, hgk, rfl, rfl, hak, hba, han, hkin, hbs, hr⟩ := hrel
    have R := Lib.hid hr
    have HK := Lib.hid hkin
    have HS := Lib.hid hbs
    have HAK := Lib.hid hak
    have HBA := Lib.hid hba
    have HGK := Lib.hid hgk
    have hab : a ≤ b := by omega
    have hb2 : b ≤ 8388608 := by omega
    clear hr hkin hbs hak hba hgk
    by_cases hbn : b ≤ n
    · have hbn' : (b : Int) ≤ (n : Int) := by omega
      obtain ⟨b2, hb2e⟩ : ∃ b2, b2 = b + 20 := ⟨_, rfl⟩
      have wb : IntKind.i64.wrap ((b : Int) + 20) = (b2 : Int) := by rw [show (b : Int) + 20 = (b2 : Int) by omega]; exact IntWalk.i64_in _ (by omega)
      have HB2 := Lib.hid hb2e
      clear hb2e
      go_wp2_with fail
      refine (insertion_r g c lo n a b L wr R.out.own hab hbn (by omega)).mono ?_
      rintro e w' ⟨rfl, L', hl, hr⟩
      have NEW : Hid (∃ (k a b' : Nat) (L : List Ag), n + 20 = gk - 20 + b' ∧ (Value.int .i64 (b : Int)) = .int .i64 (a : Int) ∧ (Value.int .i64 (b2 : Int)) = .int .i64 (b' : Int) ∧ a = k * 20 ∧ b' = a + 20 ∧ a ≤ n ∧ Kin aheadA L X ∧ BS1 L 20 a ∧ Rt 86 g c lo n w w' L) :=
        Lib.hid ⟨k + 1, b, b2, L', by have := HGK.out; have := HB2.out; omega, rfl, rfl, by have := HBA.out; have := HAK.out; omega, HB2.out, hbn, hl.kin.trans HK.out, by
          have h1 := HS.out
          rw [HAK.out] at h1 hl
          exact h1.step (by omega) hl, R.out.trans hr⟩
      clear hl hr
      go_wp2
      go_roundg (gk - 20)
      case measure => (have := HGK.out; omega)
      case rel => exact NEW.out
    · have hbn' : ¬ (b : Int) ≤ (n : Int) := by omega
      go_wp2_with fail
      refine (insertion_r g c lo n a n L wr R.out.own han (Nat.le_refl _) (by omega)).mono ?_
      rintro e wA ⟨rfl, L1, hl, hr⟩
      have RA := Lib.hid (R.out.trans hr)
      have KA := Lib.hid (hl.kin.trans HK.out)
      have SA := Lib.hid (show BS1 L1 20 n from by
        have h1 := HS.out
        rw [HAK.out] at h1 hl
        exact h1.step (by omega) hl)
      clear hl hr R HK HS HAK HBA HGK
      go_wp2
      go_loopg [6] (n - 20) (fun gk x wr => ∃ (s : Nat) (L : List Ag), gk = n - s ∧ x = .int .i64 (s : Int) ∧ 20 ≤ s ∧ s ≤ 8388608 ∧ Kin aheadA L X ∧ BS1 L s n ∧ Rt 86 g c lo n w wr L)
      case atStart => exact ⟨20, L1, rfl, rfl, by omega, by omega, KA.out, SA.out, RA.out⟩
      case round =>
        obtain ⟨s, L2, hgk, rfl, hs20, hs8, hkin, hbs, hr⟩ := hrel
        have R := Lib.hid hr
        have HK := Lib.hid hkin
        have HS := Lib.hid hbs
        clear hr hkin hbs
        by_cases hsn : s < n
        · have hsn' : (s : Int) < (n : Int) := by omega
          obtain ⟨s2, hs2⟩ : ∃ s2, s2 = 2 * s := ⟨_, rfl⟩
          have ws : IntKind.i64.wrap (2 * (s : Int)) = (s2 : Int) := by rw [show 2 * (s : Int) = (s2 : Int) by omega]; exact IntWalk.i64_in _ (by omega)
          have ws' : IntKind.i64.wrap ((s : Int) * 2) = (s2 : Int) := by rw [show (s : Int) * 2 = (s2 : Int) by omega]; exact IntWalk.i64_in _ (by omega)
          have HS2 := Lib.hid hs2
          obtain ⟨G1, hG1⟩ : ∃ G1, G1 = n - s2 := ⟨_, rfl⟩
          have HG1 := Lib.hid hG1
          have HGL : Hid (G1 < gk) := Lib.hid (by omega)
          have hs28 : s2 ≤ 8388608 := by omega
          have hs220 : 20 ≤ s2 := by omega
          have BG3 : Hid (∃ (k a b : Nat) (L : List Ag), n + s2 = n + b ∧ (Value.int .i64 (0 : Int)) = .int .i64 (a : Int) ∧ (Value.int .i64 (s2 : Int)) = .int .i64 (b : Int) ∧ a = k * s2 ∧ b = a + s2 ∧ a ≤ n ∧ Kin aheadA L X ∧ BS1 L s2 a ∧ BS2 L s a n ∧ Rt 86 g c lo n w wr L) :=
            Lib.hid ⟨0, 0, s2, L2, rfl, rfl, rfl, by omega, by omega, Nat.zero_le _, HK.out, fun i j _ h => absurd h (by omega), HS.out.two, R.out⟩
          have OUT : Hid (∀ (L : List Ag) (W : World), Kin aheadA L X → BS1 L s2 n → Rt 86 g c lo n w W L → ∃ (s : Nat) (L : List Ag), G1 = n - s ∧ Value.int .i64 (s2 : Int) = .int .i64 (s : Int) ∧ 20 ≤ s ∧ s ≤ 8388608 ∧ Kin aheadA L X ∧ BS1 L s n ∧ Rt 86 g c lo n w W L) :=
            Lib.hid fun L W h1 h2 h3 => ⟨s2, L, HG1.out, rfl, hs220, hs28, h1, h2, h3⟩
          clear hs2 hG1 hgk R HK HS
          go_wp2
          go_loopg [7, 8] n (fun gk x y wr => ∃ (k a b : Nat) (L : List Ag), n + s2 = gk + b ∧ x = .int .i64 (a : Int) ∧ y = .int .i64 (b : Int) ∧ a = k * s2 ∧ b = a + s2 ∧ a ≤ n ∧ Kin aheadA L X ∧ BS1 L s2 a ∧ BS2 L s a n ∧ Rt 86 g c lo n w wr L)
          case atStart => exact BG3.out
          case round =>
            obtain ⟨k, a, b, L, hg3, rfl, rfl, hak, hba, han, hkin, hb1, hb2, hr⟩ := hrel
            have R := Lib.hid hr
            have HK := Lib.hid hkin
            have H1 := Lib.hid hb1
            have H2 := Lib.hid hb2
            have HAK := Lib.hid hak
            have HBA := Lib.hid hba
            have HG3 := Lib.hid hg3
            have e2k : a = (2 * k) * s := by rw [hak, HS2.out, ← Nat.mul_assoc, Nat.mul_comm k 2]
            have e2k1 : (2 * k + 1) * s = a + s := by rw [Nat.succ_mul, e2k]
            have e2k2 : (2 * k + 1 + 1) * s = a + s + s := by rw [Nat.succ_mul, e2k1]
            have E2K := Lib.hid e2k
            have E2K1 := Lib.hid e2k1
            have E2K2 := Lib.hid e2k2
            obtain ⟨m, hm⟩ : ∃ m, m = a + s := ⟨_, rfl⟩
            have wm : IntKind.i64.wrap ((a : Int) + (s : Int)) = (m : Int) := by rw [show (a : Int) + (s : Int) = (m : Int) by omega]; exact IntWalk.i64_in _ (by omega)
            have HM := Lib.hid hm
            have ham : a < m := by omega
            have hmb : m < b := by have := HS2.out; omega
            have hbb : b ≤ 16777216 := by omega
            clear hr hkin hb1 hb2 hak hba hg3 e2k e2k1 e2k2 hm
            by_cases hbn : b ≤ n
            · have hbn' : (b : Int) ≤ (n : Int) := by omega
              obtain ⟨b2, hb2e⟩ : ∃ b2, b2 = b + s2 := ⟨_, rfl⟩
              have wb : IntKind.i64.wrap ((b : Int) + (s2 : Int)) = (b2 : Int) := by rw [show (b : Int) + (s2 : Int) = (b2 : Int) by omega]; exact IntWalk.i64_in _ (by omega)
              have HB2 := Lib.hid hb2e
              clear hb2e
              have C := Lib.hid (symMerge_r g c lo n a m b L wr R.out.own ham hmb hbn
                (by have := BS2.on (k := 2 * k) (m := m) H2.out (Nat.le_of_eq E2K.out) (by rw [E2K1.out, HM.out]; exact Nat.le_refl _) (by omega); rw [← E2K.out] at this; exact this)
                (by have := BS2.on (k := 2 * k + 1) (m := b) H2.out (by rw [E2K1.out]; omega) (by rw [E2K2.out, HBA.out, HS2.out]; omega) hbn; rw [E2K1.out, ← HM.out] at this; exact this) (by omega))
              go_wp2_with fail
              refine C.out.mono ?_
              rintro e w' ⟨rfl, L', hl, hr⟩
              have NEW : Hid (∃ (k a b' : Nat) (L : List Ag), n + s2 = gk - s2 + b' ∧ (Value.int .i64 (b : Int)) = .int .i64 (a : Int) ∧ (Value.int .i64 (b2 : Int)) = .int .i64 (b' : Int) ∧ a = k * s2 ∧ b' = a + s2 ∧ a ≤ n ∧ Kin aheadA L X ∧ BS1 L s2 a ∧ BS2 L s a n ∧ Rt 86 g c lo n w w' L) :=
                Lib.hid ⟨k + 1, b, b2, L', by have := HG3.out; have := HB2.out; omega, rfl, rfl, by rw [Nat.succ_mul, ← HAK.out]; exact HBA.out, HB2.out, hbn, hl.kin.trans HK.out, by
                  have h1 := H1.out
                  have hl2 := hl
                  rw [HAK.out] at h1 hl2
                  exact h1.step (by omega) hl2, H2.out.step hl (by omega), R.out.trans hr⟩
              have HM3 : Hid (gk - s2 < gk) := Lib.hid (by have := HG3.out; omega)
              clear hl hr
              go_wp2
              go_roundg (gk - s2)
              case measure => exact HM3.out
              case rel => exact NEW.out
            · have hbn' : ¬ (b : Int) ≤ (n : Int) := by omega
              by_cases hmn : m < n
              · have hmn' : (m : Int) < (n : Int) := by omega
                have C := Lib.hid (symMerge_r g c lo n a m n L wr R.out.own ham hmn (Nat.le_refl _)
                  (by have := BS2.on (k := 2 * k) (m := m) H2.out (Nat.le_of_eq E2K.out) (by rw [E2K1.out, HM.out]; exact Nat.le_refl _) (by omega); rw [← E2K.out] at this; exact this)
                  (by have := BS2.on (k := 2 * k + 1) (m := n) H2.out (by rw [E2K1.out]; omega) (by rw [E2K2.out]; have := HBA.out; have := HS2.out; omega) (Nat.le_refl _); rw [E2K1.out, ← HM.out] at this; exact this) (by omega))
                go_wp2_with fail
                refine C.out.mono ?_
                rintro e w' ⟨rfl, L', hl, hr⟩
                have NEW := Lib.hid (OUT.out L' w' (hl.kin.trans HK.out) (by
                  have h1 := H1.out
                  rw [HAK.out] at h1 hl
                  exact h1.step (by omega) hl) (R.out.trans hr))
                clear hl hr
                go_wp2
                go_roundg G1
                case measure => exact HGL.out
                case rel => exact NEW.out
              · have hmn' : ¬ (m : Int) < (n : Int) := by omega
                have NEW := Lib.hid (OUT.out L wr HK.out (by
                  have h1 := H1.out
                  have h2 := H2.out
                  rw [HAK.out, HS2.out] at h1 h2
                  rw [HS2.out]
                  exact h1.close (by omega) h2 (by rw [← HS2.out, ← HAK.out, ← HM.out]; omega)) R.out)
                go_wp2
                go_roundg G1
                case measure => exact HGL.out
                case rel => exact NEW.out
        · have hsn' : ¬ (s : Int) < (n : Int) := by omega
          have FIN : Hid (∃ Z, StS aheadA Z X ∧ Rt 86 g c lo n w wr Z) := Lib.hid ⟨L2, ⟨HS.out.whole R.out.len (by omega), HK.out⟩, R.out⟩
          go_wp2
          go_end0
          exact ⟨rfl, FIN.out⟩
theorem sortStable_x (g c lo n : Nat) (X : List Ag) (w : World) (h : w.ownsRow lo 86 6 (.slice (some ⟨g, 0, none⟩) n c) n (flatA X)) (hbig : n ≤ 4194304) :
    Calls Try.prog 83 #[(.slice (some ⟨g, 0, none⟩) n c), .func (.func 106) #[] #[]] w fun e w' => e = .returned (.tuple #[]) ∧ ∃ Z, StS aheadA Z X ∧ Rt 86 g c lo n w w' Z := by
  have C := Lib.hid (stable_x g c lo n X w h hbig)
  clear h
  go_enter Try.func83, Try.ntmps83
  go_wp2_with fail
  refine C.out.mono ?_
  rintro e w' ⟨rfl, hr⟩
  have FIN := Lib.hid hr
  clear hr
  go_wp2
  go_end0
  exact ⟨rfl, FIN.out⟩

end Go.Proofs.Ytchbmnpajnlijaa
