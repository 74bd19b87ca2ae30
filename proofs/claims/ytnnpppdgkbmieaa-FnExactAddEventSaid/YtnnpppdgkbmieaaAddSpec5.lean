/- The contract of spec.AddEvent: an agg put in at its place. (made by tools/mkadds5.py) -/
import Derived.Test.YtnnpppdgkbmieaaAddSpec3
import Derived.Test.YtnnpppdgkbmieaaPlainAdd3
namespace Go.Proofs.Ytnnpppdgkbmieaa
open Go.RowKit
theorem blk_under {W W' : World} {g B : Nat} {t : TypeId} {cs : Array Value} (h : Blk W g t cs) (hb : Below B W W') (hlt : g < B) : Blk W' g t cs := (hb.block g hlt).trans h

set_option maxHeartbeats 8000000 in
set_option maxRecDepth 100000 in
theorem specAdd_put (a : Option Addr) (n c : Nat) (mk lt ov sz rm k y t v : Int) (l : List Ag) (hi : Nat) (w : World) (hr : Ags w hi a c l) (hn : n = l.length) (hB : hi ≤ w.heap.size) (hlen : l.length ≤ 1048576) (hG : addGood l mk lt ov sz rm k y t v = true) (hL : ¬ windowEnd (windowOf t sz) sz ≤ mk) (hF : foundB l (oneA (windowOf t sz) y v) = false) (hM : ¬ rm ≤ (l.length : Int)) :
    Calls Try.prog 10 #[.agg #[.slice a n c, .int .i64 mk, .int .i64 lt, .int .i64 ov], .int .i64 sz, .int .i64 rm, (.agg #[.int .i64 k, .int .i64 y, .int .i64 t, .int .i64 v])] w (FreshShardI (addR l mk lt ov sz rm k y t v) mk w) := by
  subst hn
  have hc1 := hr.cap
  have hc2 := hr.big
  have tt := three_new w 30 34 30 #[.slice a l.length c, .int .i64 mk, .int .i64 lt, .int .i64 ov] #[.int .i64 k, .int .i64 y, .int .i64 t, .int .i64 v] #[.slice none 0 0, .int .i64 0, .int .i64 0, .int .i64 0]
  have HN := Lib.hid (hr.below (tt.bel.mono hB))
  have TT := Lib.hid tt
  have HOK := Lib.hid (fun (W : World) (h : Ags W hi a c l) (h2 : hi ≤ W.heap.size) => specShardOk_any a l.length c mk lt ov l hi W h rfl h2)
  have HR0 := Lib.hid hr
  clear hr tt
  obtain ⟨hS, hZ, hR, rfl, hE⟩ := addGood_inv hG
  rw [hS] at HOK
  have CZ := Lib.hid (fun W => specIn_any sz (1) (1000000) W)
  rw [hZ] at CZ
  have CR := Lib.hid (fun W => specIn_any rm (1) (40) W)
  rw [hR] at CR
  have CE := Lib.hid (fun W => specFrameOk_any 1 y t v W)
  rw [hE] at CE
  have CW := Lib.hid (fun W => winOfS_q t sz W)
  have CN := Lib.hid (fun W => winEndS_q (windowOf t sz) sz W)
  have hok := (sok_bd hS).2.2.2.2
  rw [addR_put hG hL hF hM]
  have hM2 : (l.length : Int) < rm := by omega
  have hNl := placeN_le l (oneA (windowOf t sz) y v)
  have HD : Hid (∀ k, k < l.length → ¬ ((ael l k).win = windowOf t sz ∧ (ael l k).key = y)) := Lib.hid (fun k hk => unlike_iff (unlike_all hok hF hk))
  have HAB : Hid (∀ k, k < placeN l (oneA (windowOf t sz) y v) → aheadA (oneA (windowOf t sz) y v) (ael l k) = false) := Lib.hid (fun k hk => ahead_before hk)
  have HAT : Hid (placeN l (oneA (windowOf t sz) y v) < l.length → aheadA (oneA (windowOf t sz) y v) (ael l (placeN l (oneA (windowOf t sz) y v))) = true) := Lib.hid (fun h => ahead_there h hF)
  clear hS hZ hR hE hG hok hF hM
  generalize windowOf t sz = X at CW CN hL HD HAB HAT hNl ⊢
  generalize windowEnd X sz = E at CN hL
  generalize placeN l (oneA X y v) = N at HAB HAT hNl ⊢
  go_enter Try.func10, Try.ntmps10
  go_wp2_with fail
  refine (specCopy_any a _ c mk lt ov l _ _ HN.out rfl (by simp; omega) hlen).mono ?_
  rintro e w1 ⟨a1, c1, rfl, ho, hb⟩
  have s1 := hb.size
  simp only [World.size_alloc] at s1
  have T0 := Lib.hid ((TT.out.a.below hb).alloc (.cells #[.slice a1 l.length c1, .int .i64 mk, .int .i64 lt, .int .i64 ov] 30))
  have T1 := Lib.hid ((TT.out.b.below hb).alloc (.cells #[.slice a1 l.length c1, .int .i64 mk, .int .i64 lt, .int .i64 ov] 30))
  have T2 := Lib.hid ((TT.out.c.below hb).alloc (.cells #[.slice a1 l.length c1, .int .i64 mk, .int .i64 lt, .int .i64 ov] 30))
  have TN := Lib.hid (Blk.new w1 30 #[.slice a1 l.length c1, .int .i64 mk, .int .i64 lt, .int .i64 ov])
  have TO := Lib.hid ((owns_less ho (show w.heap.size ≤ _ by simp; omega)).alloc (.cells #[.slice a1 l.length c1, .int .i64 mk, .int .i64 lt, .int .i64 ov] 30))
  have TB := Lib.hid ((TT.out.bel.trans (hb.mono (by simp; omega))).alloc (by omega) (.cells #[.slice a1 l.length c1, .int .i64 mk, .int .i64 lt, .int .i64 ov] 30))
  have TA := Lib.hid ((HN.out.below (hb.mono (by simp; omega))).below ((Below.refl hi w1).alloc (by omega) (.cells #[.slice a1 l.length c1, .int .i64 mk, .int .i64 lt, .int .i64 ov] 30)))
  clear ho hb
  have q0 := T0.out.cell
  have qf := T1.out.cell
  have qr := T2.out.cell
  have qn := TN.out.cell
  have fr := T2.out.frozen
  have fn := TN.out.frozen
  go_wp2_with fail
  refine (HOK.out _ TA.out (by simp; omega)).mono ?_
  rintro e w2 ⟨rfl, hb⟩
  have T0 := Lib.hid (T0.out.below hb)
  have T1 := Lib.hid (T1.out.below hb)
  have T2 := Lib.hid (T2.out.below hb)
  have TN := Lib.hid (TN.out.below hb)
  have TO := Lib.hid (owns_below TO.out hb)
  have TB := Lib.hid (TB.out.trans (hb.mono TB.out.size))
  have s2 := hb.size
  simp only [World.size_alloc] at s2
  clear hb
  clear q0 qf qr qn fr fn
  have q0 := T0.out.cell
  have qf := T1.out.cell
  have qr := T2.out.cell
  have qn := TN.out.cell
  have fr := T2.out.frozen
  have fn := TN.out.frozen
  go_wp2_with fail
  refine (CZ.out _).mono ?_
  rintro e w' ⟨rfl, rfl⟩
  go_wp2_with fail
  refine (CR.out _).mono ?_
  rintro e w' ⟨rfl, rfl⟩
  go_wp2_with fail
  refine (CE.out _).mono ?_
  rintro e w3 ⟨rfl, hb⟩
  have T0 := Lib.hid (T0.out.below hb)
  have T1 := Lib.hid (T1.out.below hb)
  have T2 := Lib.hid (T2.out.below hb)
  have TN := Lib.hid (TN.out.below hb)
  have TO := Lib.hid (owns_below TO.out hb)
  have TB := Lib.hid (TB.out.trans (hb.mono TB.out.size))
  have s3 := hb.size
  clear hb
  clear q0 qf qr qn fr fn
  have q0 := T0.out.cell
  have qf := T1.out.cell
  have qr := T2.out.cell
  have qn := TN.out.cell
  have fr := T2.out.frozen
  have fn := TN.out.frozen
  go_wp2_with fail
  have d1 : w3.drew.cell? ⟨w.heap.size + 1, 1, none⟩ = some (.int .i64 y) := T1.out.drew.cell 1
  have d2 : w3.drew.cell? ⟨w.heap.size + 1, 2, none⟩ = some (.int .i64 t) := T1.out.drew.cell 2
  have d3 : w3.drew.cell? ⟨w.heap.size + 1, 3, none⟩ = some (.int .i64 v) := T1.out.drew.cell 3
  have z1 : (w3.alloc (.cells #[.int .i64 0, .int .i64 0, .int .i64 0, .int .i64 0, .int .i64 0, .int .i64 0] 44)).drew.cell? ⟨w.heap.size + 1, 1, none⟩ = some (.int .i64 y) := (T1.out.alloc (.cells #[.int .i64 0, .int .i64 0, .int .i64 0, .int .i64 0, .int .i64 0, .int .i64 0] 44)).drew.cell 1
  have z2 : (w3.alloc (.cells #[.int .i64 0, .int .i64 0, .int .i64 0, .int .i64 0, .int .i64 0, .int .i64 0] 44)).drew.cell? ⟨w.heap.size + 1, 2, none⟩ = some (.int .i64 t) := (T1.out.alloc (.cells #[.int .i64 0, .int .i64 0, .int .i64 0, .int .i64 0, .int .i64 0, .int .i64 0] 44)).drew.cell 2
  have z3 : (w3.alloc (.cells #[.int .i64 0, .int .i64 0, .int .i64 0, .int .i64 0, .int .i64 0, .int .i64 0] 44)).drew.cell? ⟨w.heap.size + 1, 3, none⟩ = some (.int .i64 v) := (T1.out.alloc (.cells #[.int .i64 0, .int .i64 0, .int .i64 0, .int .i64 0, .int .i64 0, .int .i64 0] 44)).drew.cell 3
  have y1 : (w3.alloc (.cells #[.int .i64 X, .int .i64 y, .int .i64 1, .int .i64 v, .int .i64 v, .int .i64 v] 44)).drew.cell? ⟨w.heap.size + 1, 1, none⟩ = some (.int .i64 y) := (T1.out.alloc (.cells #[.int .i64 X, .int .i64 y, .int .i64 1, .int .i64 v, .int .i64 v, .int .i64 v] 44)).drew.cell 1
  have y2 : (w3.alloc (.cells #[.int .i64 X, .int .i64 y, .int .i64 1, .int .i64 v, .int .i64 v, .int .i64 v] 44)).drew.cell? ⟨w.heap.size + 1, 2, none⟩ = some (.int .i64 t) := (T1.out.alloc (.cells #[.int .i64 X, .int .i64 y, .int .i64 1, .int .i64 v, .int .i64 v, .int .i64 v] 44)).drew.cell 2
  have y3 : (w3.alloc (.cells #[.int .i64 X, .int .i64 y, .int .i64 1, .int .i64 v, .int .i64 v, .int .i64 v] 44)).drew.cell? ⟨w.heap.size + 1, 3, none⟩ = some (.int .i64 v) := (T1.out.alloc (.cells #[.int .i64 X, .int .i64 y, .int .i64 1, .int .i64 v, .int .i64 v, .int .i64 v] 44)).drew.cell 3
  clear q0 qf qr qn fr fn
  apply meetP
  case f =>
    intro HG4
    go_region_held3 (fun W => W.cell? ⟨w.heap.size + 1, 1, none⟩ = some (.int .i64 y) ∧ W.cell? ⟨w.heap.size + 1, 2, none⟩ = some (.int .i64 t) ∧ W.cell? ⟨w.heap.size + 1, 3, none⟩ = some (.int .i64 v))
      (first | exact ⟨d1, d2, d3⟩ | exact ⟨z1, z2, z3⟩ | exact ⟨y1, y2, y3⟩)
      (first | (go_at_call 40; refine (CW.out _).mono ?_; rintro e w' ⟨rfl, rfl⟩))
    all_goals exact HG4
  clear d1 d2 d3 z1 z2 z3 y1 y2 y3
  have T0 := Lib.hid (T0.out.alloc (.cells #[.int .i64 X, .int .i64 y, .int .i64 1, .int .i64 v, .int .i64 v, .int .i64 v] 44))
  have T1 := Lib.hid (T1.out.alloc (.cells #[.int .i64 X, .int .i64 y, .int .i64 1, .int .i64 v, .int .i64 v, .int .i64 v] 44))
  have T2 := Lib.hid (T2.out.alloc (.cells #[.int .i64 X, .int .i64 y, .int .i64 1, .int .i64 v, .int .i64 v, .int .i64 v] 44))
  have TN := Lib.hid (TN.out.alloc (.cells #[.int .i64 X, .int .i64 y, .int .i64 1, .int .i64 v, .int .i64 v, .int .i64 v] 44))
  have TO := Lib.hid (TO.out.alloc (.cells #[.int .i64 X, .int .i64 y, .int .i64 1, .int .i64 v, .int .i64 v, .int .i64 v] 44))
  have TB := Lib.hid (TB.out.alloc TB.out.size (.cells #[.int .i64 X, .int .i64 y, .int .i64 1, .int .i64 v, .int .i64 v, .int .i64 v] 44))
  have TG := Lib.hid (Blk.new w3 44 #[.int .i64 X, .int .i64 y, .int .i64 1, .int .i64 v, .int .i64 v, .int .i64 v])
  have T0 := Lib.hid (T0.out.drew)
  have T1 := Lib.hid (T1.out.drew)
  have T2 := Lib.hid (T2.out.drew)
  have TN := Lib.hid (TN.out.drew)
  have TG := Lib.hid (TG.out.drew)
  have TO := Lib.hid (TO.out.drew)
  have TB := Lib.hid (TB.out.drew)
  have s4 : (w3.alloc (.cells #[.int .i64 X, .int .i64 y, .int .i64 1, .int .i64 v, .int .i64 v, .int .i64 v] 44)).drew.heap.size = w3.heap.size + 1 := by simp
  generalize (w3.alloc (.cells #[.int .i64 X, .int .i64 y, .int .i64 1, .int .i64 v, .int .i64 v, .int .i64 v] 44)).drew = w5 at T0 T1 T2 TN TG TO TB s4 ⊢
  have q0 := T0.out.cell
  have qf := T1.out.cell
  have qr := T2.out.cell
  have qn := TN.out.cell
  have qg := TG.out.cell
  have fr := T2.out.frozen
  have fn := TN.out.frozen
  go_wp2_with fail
  go_still_tail 6, (by kernel_rfl)
  still_call (CN.out _)
  repeat still_step
  refine wpStill_nil ?_
  change wpList _ _ _ _ _ w5.drew
  have T0 := Lib.hid (T0.out.drew)
  have T1 := Lib.hid (T1.out.drew)
  have T2 := Lib.hid (T2.out.drew)
  have TN := Lib.hid (TN.out.drew)
  have TG := Lib.hid (TG.out.drew)
  have TO := Lib.hid (TO.out.drew)
  have TB := Lib.hid (TB.out.drew)
  have s6 : w5.drew.heap.size = w5.heap.size := by simp
  generalize w5.drew = w6 at T0 T1 T2 TN TG TO TB s6 ⊢
  clear q0 qf qr qn qg fr fn
  have q0 := T0.out.cell
  have qf := T1.out.cell
  have qr := T2.out.cell
  have qn := TN.out.cell
  have qg := TG.out.cell
  have fr := T2.out.frozen
  have fn := TN.out.frozen
  go_wp2
  go_loopw [12] (fun i wr => ∃ k : Nat, k ≤ l.length ∧ i = .int .i64 k ∧ Below w6.heap.size w6 wr) (fun i _ => l.length - (intOf i).toNat)
  case atStart => exact ⟨0, Nat.zero_le _, rfl, Below.refl _ _⟩
  case round =>
    obtain ⟨k, hk, rfl, hb⟩ := hrel
    have T0 := Lib.hid (T0.out.below hb)
    have T1 := Lib.hid (T1.out.below hb)
    have T2 := Lib.hid (T2.out.below hb)
    have TN := Lib.hid (TN.out.below hb)
    have TG := Lib.hid (TG.out.below hb)
    have TO := Lib.hid (owns_below TO.out hb)
    have TB := Lib.hid (TB.out.trans (hb.mono TB.out.size))
    have sr := hb.size
    have HB := Lib.hid hb
    clear hb
    have HA := Lib.hid (HR0.out.below (TB.out.mono hB))
    clear q0 qf qr qn qg fr fn
    have q0 := T0.out.cell
    have qf := T1.out.cell
    have qr := T2.out.cell
    have qn := TN.out.cell
    have qg := TG.out.cell
    have fr := T2.out.frozen
    have fn := TN.out.frozen
    by_cases hlt : k < l.length
    · have hlt2 : k < l.length := by omega
      have hlt' : (k : Int) < (l.length : Int) := by omega
      have hnn : 0 ≤ (k : Int) := by omega
      obtain ⟨b1, off, ha, hbh, hcell⟩ := Ags.six HA.out (by omega)
      rw [ha] at q0
      clear ha
      obtain ⟨p0, p1, p2, p3, p4, p5⟩ := hcell k hlt2
      have HU := HD.out k hlt
      clear hcell p2 p3 p4 p5
      generalize ael l k = S at p0 p1 HU
      obtain ⟨u0, u1, u2, u3, u4, u5⟩ := S
      simp only at p0 p1 HU
      by_cases h0 : u0 = X
      · subst h0
        have h1 : ¬ u1 = y := fun h => HU ⟨rfl, h⟩
        have hd1 : decide (u1 = y) = false := by simp [h1]
        clear HU
        go_wp2_with fail
        go_quiet (fail)
        go_wp2
        go_roundw
        case rel => exact ⟨k + 1, by omega, by go_num, below_drewN HB.out _⟩
        case measure => simp [intOf]; omega
      · have hd0 : decide (u0 = X) = false := by simp [h0]
        clear HU
        go_wp2_with fail
        go_quiet (fail)
        go_wp2
        go_roundw
        case rel => exact ⟨k + 1, by omega, by go_num, below_drewN HB.out _⟩
        case measure => simp [intOf]; omega
    · obtain rfl : k = l.length := by omega
      rename World => wq
      clear q0 qf qr qn qg fr fn
      have WB : Hid (∀ W : World, Below wq.heap.size wq W → Below w.heap.size w W) := Lib.hid (fun W h => TB.out.trans (h.mono TB.out.size))
      have T0L := Lib.hid (T0.out.lt)
      have T1L := Lib.hid (T1.out.lt)
      have T2L := Lib.hid (T2.out.lt)
      have TNL := Lib.hid (TN.out.lt)
      have TGL := Lib.hid (TG.out.lt)
      have HLN : Hid (∀ j, j ≤ l.length → (partIn l N (oneA X y v) j).length ≤ l.length + 1) := Lib.hid (fun j hj => partIn_len_le hj)
      have sw : w.heap.size ≤ wq.heap.size := TB.out.size
      have q0 := T0.out.cell
      go_wp2
      go_loopw [13, 14, 15] (fun ls pt i wr => ∃ (k : Nat) (b : Bool) (a2 : Option Addr) (n2 c2 : Nat), k ≤ l.length ∧ i = .int .i64 k ∧ b = decide (N < k) ∧ pt = .bool b ∧ ls = .slice a2 n2 c2 ∧ n2 = (partIn l N (oneA X y v) k).length ∧ wr.ownsRow wq.heap.size 44 6 (.slice a2 n2 c2) n2 (flatA (partIn l N (oneA X y v) k)) ∧ Below wq.heap.size wq wr) (fun _ _ i _ => l.length - (intOf i).toNat)
      case atStart => exact ⟨0, false, some ⟨wq.heap.size, 0, none⟩, 0, 0, Nat.zero_le _, rfl, by simp, rfl, rfl, by rw [partIn_zero]; rfl, by rw [partIn_zero]; simpa [flatA, flatR] using World.ownsRow_made wq #[] 0 (Nat.le_refl _) (Nat.zero_le _) rfl, (Below.refl _ _).alloc (Nat.le_refl _) _⟩
      case round =>
        clear q0
        obtain ⟨k, b, a2, n2, c2, hk, rfl, hb0, rfl, rfl, hn2, hown, hbv⟩ := hrel
        have HN2 := Lib.hid hn2
        clear hn2
        have RO := Lib.hid hown
        have RB := Lib.hid hbv
        have T0 := Lib.hid (T0.out.below hbv)
        have T1 := Lib.hid (T1.out.below hbv)
        have T2 := Lib.hid (T2.out.below hbv)
        have TN := Lib.hid (TN.out.below hbv)
        have TG := Lib.hid (TG.out.below hbv)
        clear hown hbv
        by_cases hlt : k < l.length
        · rcases Nat.lt_trichotomy k N with h1 | h1 | h1
          · obtain rfl : b = false := by rw [hb0]; simp; omega
            have HAK := Lib.hid (HAB.out k h1)
            have HPE := Lib.hid (partIn_lt (S := oneA X y v) h1 hlt)
            clear hb0
            have hnn : 0 ≤ (k : Int) := by omega
            have hlt' : (k : Int) < (l.length : Int) := by omega
            have HA2 := Lib.hid (HR0.out.below ((WB.out _ RB.out).mono hB))
            obtain ⟨b1, off, ha, hbh, hcell⟩ := Ags.six HA2.out (by omega)
            have CC : Hid (∀ W, Below w.heap.size w W → W.cell? ⟨b1, off + k * 6, none⟩ = some (.int .i64 (ael l k).win) ∧ W.cell? ⟨b1, off + k * 6 + 1, none⟩ = some (.int .i64 (ael l k).key) ∧ W.cell? ⟨b1, off + k * 6 + 2, none⟩ = some (.int .i64 (ael l k).cnt) ∧ W.cell? ⟨b1, off + k * 6 + 3, none⟩ = some (.int .i64 (ael l k).sum) ∧ W.cell? ⟨b1, off + k * 6 + 4, none⟩ = some (.int .i64 (ael l k).mn) ∧ W.cell? ⟨b1, off + k * 6 + 5, none⟩ = some (.int .i64 (ael l k).mx)) := Lib.hid (fun W hW => by
              obtain ⟨b2, off2, ha2, hb2, hc2⟩ := Ags.six (HR0.out.below (hW.mono hB)) (by omega)
              rw [ha] at ha2
              injection ha2 with ha2
              injection ha2 with e1 e2
              subst e1 e2
              exact hc2 k hlt)
            have T0B : Hid (∀ W, Blk W w.heap.size 30 #[.slice a l.length c, .int .i64 mk, .int .i64 lt, .int .i64 ov] → W.cell? ⟨w.heap.size, 0, none⟩ = some (.slice (some ⟨b1, off, none⟩) l.length c)) := Lib.hid (fun W h => by rw [← ha]; exact h.cell 0)
            have q0 := T0B.out _ T0.out
            clear hcell HA2 ha
            generalize ael l k = Y at CC HPE HAK
            obtain ⟨u0, u1, u2, u3, u4, u5⟩ := Y
            simp only at CC
            have CA : Hid (∀ W, Calls Try.prog 44 #[(.agg #[.int .i64 X, .int .i64 y, .int .i64 1, .int .i64 v, .int .i64 v, .int .i64 v]), (.agg #[.int .i64 u0, .int .i64 u1, .int .i64 u2, .int .i64 u3, .int .i64 u4, .int .i64 u5])] W fun e w' => e = .returned (.bool false) ∧ Below W.heap.size W w') := Lib.hid (fun W => by rw [← HAK.out]; exact specAhead_x X y 1 v v v u0 u1 u2 u3 u4 u5 W)
            go_wp2_with fail
            have C7 := CC.out wr.drew (WB.out _ RB.out.drew)
            have d0 : wr.drew.cell? ⟨w.heap.size, 0, none⟩ = some (.slice (some ⟨b1, off, none⟩) l.length c) := T0B.out _ T0.out.drew
            have d1 : wr.drew.cell? ⟨b1, off + k * 6, none⟩ = some (.int .i64 u0) := C7.1
            have d2 : wr.drew.cell? ⟨b1, off + k * 6 + 1, none⟩ = some (.int .i64 u1) := C7.2.1
            have d3 : wr.drew.cell? ⟨b1, off + k * 6 + 2, none⟩ = some (.int .i64 u2) := C7.2.2.1
            have d4 : wr.drew.cell? ⟨b1, off + k * 6 + 3, none⟩ = some (.int .i64 u3) := C7.2.2.2.1
            have d5 : wr.drew.cell? ⟨b1, off + k * 6 + 4, none⟩ = some (.int .i64 u4) := C7.2.2.2.2.1
            have d6 : wr.drew.cell? ⟨b1, off + k * 6 + 5, none⟩ = some (.int .i64 u5) := C7.2.2.2.2.2
            have d7 : wr.drew.cell? ⟨w3.heap.size, 0, none⟩ = some (.int .i64 X) := TG.out.drew.cell 0
            have d8 : wr.drew.cell? ⟨w3.heap.size, 1, none⟩ = some (.int .i64 y) := TG.out.drew.cell 1
            have d9 : wr.drew.cell? ⟨w3.heap.size, 2, none⟩ = some (.int .i64 1) := TG.out.drew.cell 2
            have d10 : wr.drew.cell? ⟨w3.heap.size, 3, none⟩ = some (.int .i64 v) := TG.out.drew.cell 3
            have d11 : wr.drew.cell? ⟨w3.heap.size, 4, none⟩ = some (.int .i64 v) := TG.out.drew.cell 4
            have d12 : wr.drew.cell? ⟨w3.heap.size, 5, none⟩ = some (.int .i64 v) := TG.out.drew.cell 5
            go_region_held3 (fun W => W.cell? ⟨w.heap.size, 0, none⟩ = some (.slice (some ⟨b1, off, none⟩) l.length c) ∧ W.cell? ⟨b1, off + k * 6, none⟩ = some (.int .i64 u0) ∧ W.cell? ⟨b1, off + k * 6 + 1, none⟩ = some (.int .i64 u1) ∧ W.cell? ⟨b1, off + k * 6 + 2, none⟩ = some (.int .i64 u2) ∧ W.cell? ⟨b1, off + k * 6 + 3, none⟩ = some (.int .i64 u3) ∧ W.cell? ⟨b1, off + k * 6 + 4, none⟩ = some (.int .i64 u4) ∧ W.cell? ⟨b1, off + k * 6 + 5, none⟩ = some (.int .i64 u5) ∧ W.cell? ⟨w3.heap.size, 0, none⟩ = some (.int .i64 X) ∧ W.cell? ⟨w3.heap.size, 1, none⟩ = some (.int .i64 y) ∧ W.cell? ⟨w3.heap.size, 2, none⟩ = some (.int .i64 1) ∧ W.cell? ⟨w3.heap.size, 3, none⟩ = some (.int .i64 v) ∧ W.cell? ⟨w3.heap.size, 4, none⟩ = some (.int .i64 v) ∧ W.cell? ⟨w3.heap.size, 5, none⟩ = some (.int .i64 v))
              (first | with_reducible exact ⟨d0, d1, d2, d3, d4, d5, d6, d7, d8, d9, d10, d11, d12⟩ | with_reducible exact ⟨e0, e1, e2, e3, e4, e5, e6, e7, e8, e9, e10, e11, e12⟩)
              (first | (go_at_call 44; refine (CA.out _).mono ?_; rintro e w8 ⟨rfl, hb⟩; clear d0 d1 d2 d3 d4 d5 d6 d7 d8 d9 d10 d11 d12; have T0 := Lib.hid (T0.out.drew.below hb); have T1 := Lib.hid (T1.out.drew.below hb); have T2 := Lib.hid (T2.out.drew.below hb); have TN := Lib.hid (TN.out.drew.below hb); have TG := Lib.hid (TG.out.drew.below hb); have RO := Lib.hid (owns_below RO.out.drew hb); have RB := Lib.hid (RB.out.drew.trans (hb.mono RB.out.drew.size)); clear hb; have C8 := CC.out w8 (WB.out _ RB.out); have e0 : w8.cell? ⟨w.heap.size, 0, none⟩ = some (.slice (some ⟨b1, off, none⟩) l.length c) := T0B.out _ T0.out; have e1 : w8.cell? ⟨b1, off + k * 6, none⟩ = some (.int .i64 u0) := C8.1; have e2 : w8.cell? ⟨b1, off + k * 6 + 1, none⟩ = some (.int .i64 u1) := C8.2.1; have e3 : w8.cell? ⟨b1, off + k * 6 + 2, none⟩ = some (.int .i64 u2) := C8.2.2.1; have e4 : w8.cell? ⟨b1, off + k * 6 + 3, none⟩ = some (.int .i64 u3) := C8.2.2.2.1; have e5 : w8.cell? ⟨b1, off + k * 6 + 4, none⟩ = some (.int .i64 u4) := C8.2.2.2.2.1; have e6 : w8.cell? ⟨b1, off + k * 6 + 5, none⟩ = some (.int .i64 u5) := C8.2.2.2.2.2; have e7 : w8.cell? ⟨w3.heap.size, 0, none⟩ = some (.int .i64 X) := TG.out.cell 0; have e8 : w8.cell? ⟨w3.heap.size, 1, none⟩ = some (.int .i64 y) := TG.out.cell 1; have e9 : w8.cell? ⟨w3.heap.size, 2, none⟩ = some (.int .i64 1) := TG.out.cell 2; have e10 : w8.cell? ⟨w3.heap.size, 3, none⟩ = some (.int .i64 v) := TG.out.cell 3; have e11 : w8.cell? ⟨w3.heap.size, 4, none⟩ = some (.int .i64 v) := TG.out.cell 4; have e12 : w8.cell? ⟨w3.heap.size, 5, none⟩ = some (.int .i64 v) := TG.out.cell 5))
            clear e0 e1 e2 e3 e4 e5 e6 e7 e8 e9 e10 e11 e12 C7
            obtain ⟨a3, c3, w9, hr3, ho3, hb3, _⟩ := appendA (w := w8) ⟨u0, u1, u2, u3, u4, u5⟩ HN2.out RO.out RB.out.size (by have := HLN.out _ hk; have := HN2.out; omega) 28
            simp only at hr3
            have R3 := Lib.hid hr3
            clear hr3
            have C8 := CC.out w8 (WB.out _ RB.out)
            obtain ⟨p0, p1, p2, p3, p4, p5⟩ := C8
            have q0 := T0B.out _ T0.out
            go_wp2_with (at_builtin; refine Lib.wpList_append_run _ rfl _ _ _ _ rfl _ _ rfl rfl _ _ R3.out ?_)
            clear p0 p1 p2 p3 p4 p5 q0
            have T0 := Lib.hid (blk_under T0.out hb3 T0L.out)
            have T1 := Lib.hid (blk_under T1.out hb3 T1L.out)
            have T2 := Lib.hid (blk_under T2.out hb3 T2L.out)
            have TN := Lib.hid (blk_under TN.out hb3 TNL.out)
            have TG := Lib.hid (blk_under TG.out hb3 TGL.out)
            have RB := Lib.hid (RB.out.trans hb3)
            have RO := Lib.hid ho3
            clear ho3 hb3
            go_wp2
            go_roundw
            case rel => exact ⟨k + 1, false, a3, n2 + 1, c3, by omega, by go_num, by first | (simp; omega) | simp, rfl, rfl, by rw [HPE.out, List.length_append, ← HN2.out]; rfl, by rw [HPE.out]; exact RO.out, RB.out⟩
            case measure => simp [intOf]; omega

          · subst h1
            obtain rfl : b = false := by rw [hb0]; simp
            have HAK := Lib.hid (HAT.out hlt)
            have HPE := Lib.hid (partIn_eq (S := oneA X y v) hlt)
            clear hb0
            have hnn : 0 ≤ (k : Int) := by omega
            have hlt' : (k : Int) < (l.length : Int) := by omega
            have HA2 := Lib.hid (HR0.out.below ((WB.out _ RB.out).mono hB))
            obtain ⟨b1, off, ha, hbh, hcell⟩ := Ags.six HA2.out (by omega)
            have CC : Hid (∀ W, Below w.heap.size w W → W.cell? ⟨b1, off + k * 6, none⟩ = some (.int .i64 (ael l k).win) ∧ W.cell? ⟨b1, off + k * 6 + 1, none⟩ = some (.int .i64 (ael l k).key) ∧ W.cell? ⟨b1, off + k * 6 + 2, none⟩ = some (.int .i64 (ael l k).cnt) ∧ W.cell? ⟨b1, off + k * 6 + 3, none⟩ = some (.int .i64 (ael l k).sum) ∧ W.cell? ⟨b1, off + k * 6 + 4, none⟩ = some (.int .i64 (ael l k).mn) ∧ W.cell? ⟨b1, off + k * 6 + 5, none⟩ = some (.int .i64 (ael l k).mx)) := Lib.hid (fun W hW => by
              obtain ⟨b2, off2, ha2, hb2, hc2⟩ := Ags.six (HR0.out.below (hW.mono hB)) (by omega)
              rw [ha] at ha2
              injection ha2 with ha2
              injection ha2 with e1 e2
              subst e1 e2
              exact hc2 k hlt)
            have T0B : Hid (∀ W, Blk W w.heap.size 30 #[.slice a l.length c, .int .i64 mk, .int .i64 lt, .int .i64 ov] → W.cell? ⟨w.heap.size, 0, none⟩ = some (.slice (some ⟨b1, off, none⟩) l.length c)) := Lib.hid (fun W h => by rw [← ha]; exact h.cell 0)
            have q0 := T0B.out _ T0.out
            clear hcell HA2 ha
            generalize ael l k = Y at CC HPE HAK
            obtain ⟨u0, u1, u2, u3, u4, u5⟩ := Y
            simp only at CC
            have CA : Hid (∀ W, Calls Try.prog 44 #[(.agg #[.int .i64 X, .int .i64 y, .int .i64 1, .int .i64 v, .int .i64 v, .int .i64 v]), (.agg #[.int .i64 u0, .int .i64 u1, .int .i64 u2, .int .i64 u3, .int .i64 u4, .int .i64 u5])] W fun e w' => e = .returned (.bool true) ∧ Below W.heap.size W w') := Lib.hid (fun W => by rw [← HAK.out]; exact specAhead_x X y 1 v v v u0 u1 u2 u3 u4 u5 W)
            go_wp2_with fail
            have C7 := CC.out wr.drew (WB.out _ RB.out.drew)
            have d0 : wr.drew.cell? ⟨w.heap.size, 0, none⟩ = some (.slice (some ⟨b1, off, none⟩) l.length c) := T0B.out _ T0.out.drew
            have d1 : wr.drew.cell? ⟨b1, off + k * 6, none⟩ = some (.int .i64 u0) := C7.1
            have d2 : wr.drew.cell? ⟨b1, off + k * 6 + 1, none⟩ = some (.int .i64 u1) := C7.2.1
            have d3 : wr.drew.cell? ⟨b1, off + k * 6 + 2, none⟩ = some (.int .i64 u2) := C7.2.2.1
            have d4 : wr.drew.cell? ⟨b1, off + k * 6 + 3, none⟩ = some (.int .i64 u3) := C7.2.2.2.1
            have d5 : wr.drew.cell? ⟨b1, off + k * 6 + 4, none⟩ = some (.int .i64 u4) := C7.2.2.2.2.1
            have d6 : wr.drew.cell? ⟨b1, off + k * 6 + 5, none⟩ = some (.int .i64 u5) := C7.2.2.2.2.2
            have d7 : wr.drew.cell? ⟨w3.heap.size, 0, none⟩ = some (.int .i64 X) := TG.out.drew.cell 0
            have d8 : wr.drew.cell? ⟨w3.heap.size, 1, none⟩ = some (.int .i64 y) := TG.out.drew.cell 1
            have d9 : wr.drew.cell? ⟨w3.heap.size, 2, none⟩ = some (.int .i64 1) := TG.out.drew.cell 2
            have d10 : wr.drew.cell? ⟨w3.heap.size, 3, none⟩ = some (.int .i64 v) := TG.out.drew.cell 3
            have d11 : wr.drew.cell? ⟨w3.heap.size, 4, none⟩ = some (.int .i64 v) := TG.out.drew.cell 4
            have d12 : wr.drew.cell? ⟨w3.heap.size, 5, none⟩ = some (.int .i64 v) := TG.out.drew.cell 5
            go_region_held3 (fun W => W.cell? ⟨w.heap.size, 0, none⟩ = some (.slice (some ⟨b1, off, none⟩) l.length c) ∧ W.cell? ⟨b1, off + k * 6, none⟩ = some (.int .i64 u0) ∧ W.cell? ⟨b1, off + k * 6 + 1, none⟩ = some (.int .i64 u1) ∧ W.cell? ⟨b1, off + k * 6 + 2, none⟩ = some (.int .i64 u2) ∧ W.cell? ⟨b1, off + k * 6 + 3, none⟩ = some (.int .i64 u3) ∧ W.cell? ⟨b1, off + k * 6 + 4, none⟩ = some (.int .i64 u4) ∧ W.cell? ⟨b1, off + k * 6 + 5, none⟩ = some (.int .i64 u5) ∧ W.cell? ⟨w3.heap.size, 0, none⟩ = some (.int .i64 X) ∧ W.cell? ⟨w3.heap.size, 1, none⟩ = some (.int .i64 y) ∧ W.cell? ⟨w3.heap.size, 2, none⟩ = some (.int .i64 1) ∧ W.cell? ⟨w3.heap.size, 3, none⟩ = some (.int .i64 v) ∧ W.cell? ⟨w3.heap.size, 4, none⟩ = some (.int .i64 v) ∧ W.cell? ⟨w3.heap.size, 5, none⟩ = some (.int .i64 v))
              (first | with_reducible exact ⟨d0, d1, d2, d3, d4, d5, d6, d7, d8, d9, d10, d11, d12⟩ | with_reducible exact ⟨e0, e1, e2, e3, e4, e5, e6, e7, e8, e9, e10, e11, e12⟩)
              (first | (go_at_call 44; refine (CA.out _).mono ?_; rintro e w8 ⟨rfl, hb⟩; clear d0 d1 d2 d3 d4 d5 d6 d7 d8 d9 d10 d11 d12; have T0 := Lib.hid (T0.out.drew.below hb); have T1 := Lib.hid (T1.out.drew.below hb); have T2 := Lib.hid (T2.out.drew.below hb); have TN := Lib.hid (TN.out.drew.below hb); have TG := Lib.hid (TG.out.drew.below hb); have RO := Lib.hid (owns_below RO.out.drew hb); have RB := Lib.hid (RB.out.drew.trans (hb.mono RB.out.drew.size)); clear hb; have C8 := CC.out w8 (WB.out _ RB.out); have e0 : w8.cell? ⟨w.heap.size, 0, none⟩ = some (.slice (some ⟨b1, off, none⟩) l.length c) := T0B.out _ T0.out; have e1 : w8.cell? ⟨b1, off + k * 6, none⟩ = some (.int .i64 u0) := C8.1; have e2 : w8.cell? ⟨b1, off + k * 6 + 1, none⟩ = some (.int .i64 u1) := C8.2.1; have e3 : w8.cell? ⟨b1, off + k * 6 + 2, none⟩ = some (.int .i64 u2) := C8.2.2.1; have e4 : w8.cell? ⟨b1, off + k * 6 + 3, none⟩ = some (.int .i64 u3) := C8.2.2.2.1; have e5 : w8.cell? ⟨b1, off + k * 6 + 4, none⟩ = some (.int .i64 u4) := C8.2.2.2.2.1; have e6 : w8.cell? ⟨b1, off + k * 6 + 5, none⟩ = some (.int .i64 u5) := C8.2.2.2.2.2; have e7 : w8.cell? ⟨w3.heap.size, 0, none⟩ = some (.int .i64 X) := TG.out.cell 0; have e8 : w8.cell? ⟨w3.heap.size, 1, none⟩ = some (.int .i64 y) := TG.out.cell 1; have e9 : w8.cell? ⟨w3.heap.size, 2, none⟩ = some (.int .i64 1) := TG.out.cell 2; have e10 : w8.cell? ⟨w3.heap.size, 3, none⟩ = some (.int .i64 v) := TG.out.cell 3; have e11 : w8.cell? ⟨w3.heap.size, 4, none⟩ = some (.int .i64 v) := TG.out.cell 4; have e12 : w8.cell? ⟨w3.heap.size, 5, none⟩ = some (.int .i64 v) := TG.out.cell 5))
            clear e0 e1 e2 e3 e4 e5 e6 e7 e8 e9 e10 e11 e12 C7
            obtain ⟨a3, c3, w9, hr3, ho3, hb3, _⟩ := appendA (w := w8) ⟨X, y, 1, v, v, v⟩ HN2.out RO.out RB.out.size (by have := HLN.out _ hk; have := HN2.out; omega) 28
            simp only at hr3
            have R3 := Lib.hid hr3
            clear hr3
            have qg := TG.out.cell
            go_upto_region 24 with (at_builtin; refine Lib.wpList_append_run _ rfl _ _ _ _ rfl _ _ rfl rfl _ _ R3.out ?_)
            clear qg
            have T0 := Lib.hid (blk_under T0.out hb3 T0L.out)
            have T1 := Lib.hid (blk_under T1.out hb3 T1L.out)
            have T2 := Lib.hid (blk_under T2.out hb3 T2L.out)
            have TN := Lib.hid (blk_under TN.out hb3 TNL.out)
            have TG := Lib.hid (blk_under TG.out hb3 TGL.out)
            have RB := Lib.hid (RB.out.trans hb3)
            have RO := Lib.hid ho3
            clear ho3 hb3
            have HN3 : Hid (n2 + 1 = (partIn l k (oneA X y v) k ++ [(⟨X, y, 1, v, v, v⟩ : Ag)]).length) := Lib.hid (by rw [List.length_append, ← HN2.out]; rfl)
            obtain ⟨a4, c4, w10, hr4, ho4, hb4, _⟩ := appendA (w := w9) ⟨u0, u1, u2, u3, u4, u5⟩ HN3.out RO.out RB.out.size (by have := HLN.out _ hk; have := HN2.out; omega) 28
            simp only at hr4
            have R4 := Lib.hid hr4
            clear hr4
            have C8 := CC.out w9 (WB.out _ RB.out)
            obtain ⟨p0, p1, p2, p3, p4, p5⟩ := C8
            have q0 := T0B.out _ T0.out
            go_wp2_with (at_builtin; refine Lib.wpList_append_run _ rfl _ _ _ _ rfl _ _ rfl rfl _ _ R4.out ?_)
            clear p0 p1 p2 p3 p4 p5 q0
            have T0 := Lib.hid (blk_under T0.out hb4 T0L.out)
            have T1 := Lib.hid (blk_under T1.out hb4 T1L.out)
            have T2 := Lib.hid (blk_under T2.out hb4 T2L.out)
            have TN := Lib.hid (blk_under TN.out hb4 TNL.out)
            have TG := Lib.hid (blk_under TG.out hb4 TGL.out)
            have RB := Lib.hid (RB.out.trans hb4)
            have RO := Lib.hid ho4
            clear ho4 hb4
            go_wp2
            go_roundw
            case rel => exact ⟨k + 1, true, a4, n2 + 1 + 1, c4, by omega, by go_num, by first | (simp; omega) | simp, rfl, rfl, by rw [HPE.out, List.length_append, List.length_append, ← HN2.out]; rfl, by rw [HPE.out]; exact RO.out, RB.out⟩
            case measure => simp [intOf]; omega

          · obtain rfl : b = true := by rw [hb0]; simp; omega
            have HPE := Lib.hid (partIn_gt (S := oneA X y v) h1 hlt)
            clear hb0
            have hnn : 0 ≤ (k : Int) := by omega
            have hlt' : (k : Int) < (l.length : Int) := by omega
            have HA2 := Lib.hid (HR0.out.below ((WB.out _ RB.out).mono hB))
            obtain ⟨b1, off, ha, hbh, hcell⟩ := Ags.six HA2.out (by omega)
            have CC : Hid (∀ W, Below w.heap.size w W → W.cell? ⟨b1, off + k * 6, none⟩ = some (.int .i64 (ael l k).win) ∧ W.cell? ⟨b1, off + k * 6 + 1, none⟩ = some (.int .i64 (ael l k).key) ∧ W.cell? ⟨b1, off + k * 6 + 2, none⟩ = some (.int .i64 (ael l k).cnt) ∧ W.cell? ⟨b1, off + k * 6 + 3, none⟩ = some (.int .i64 (ael l k).sum) ∧ W.cell? ⟨b1, off + k * 6 + 4, none⟩ = some (.int .i64 (ael l k).mn) ∧ W.cell? ⟨b1, off + k * 6 + 5, none⟩ = some (.int .i64 (ael l k).mx)) := Lib.hid (fun W hW => by
              obtain ⟨b2, off2, ha2, hb2, hc2⟩ := Ags.six (HR0.out.below (hW.mono hB)) (by omega)
              rw [ha] at ha2
              injection ha2 with ha2
              injection ha2 with e1 e2
              subst e1 e2
              exact hc2 k hlt)
            have T0B : Hid (∀ W, Blk W w.heap.size 30 #[.slice a l.length c, .int .i64 mk, .int .i64 lt, .int .i64 ov] → W.cell? ⟨w.heap.size, 0, none⟩ = some (.slice (some ⟨b1, off, none⟩) l.length c)) := Lib.hid (fun W h => by rw [← ha]; exact h.cell 0)
            have q0 := T0B.out _ T0.out
            clear hcell HA2 ha
            generalize ael l k = Y at CC HPE
            obtain ⟨u0, u1, u2, u3, u4, u5⟩ := Y
            simp only at CC
            go_wp2_with fail
            refine wp_region_any (by kernel_rfl) ?_
            change wpAny _ _ _ _ _ _ _ (World.drew _)
            refine wpAny_take (oi := ⟨some 126, _, _, _, _, _⟩) (i := 0) (v := .bool true) rfl (by kernel_rfl) (by kernel_rfl) (by kernel_rfl) (fun _ _ _ h => h) (Or.inl ⟨by kernel_rfl, fun w => by go_simp⟩) ?_
            go_simp
            refine wpAny_take (oi := ⟨some 127, _, _, _, _, _⟩) (i := 1) (v := .bool false) rfl (by kernel_rfl) (by kernel_rfl) (by kernel_rfl) (fun _ _ _ h => h) (Or.inl ⟨by kernel_rfl, fun w => by go_simp⟩) ?_
            go_simp
            refine wpAny_take (oi := ⟨some 128, _, _, _, _, _⟩) (i := 2) (v := .bool false) rfl (by kernel_rfl) (by kernel_rfl) (by kernel_rfl) (fun _ _ _ h => h) (Or.inl ⟨by kernel_rfl, fun w => by go_simp⟩) ?_
            go_simp
            refine wpAny_take (oi := ⟨some 129, _, _, _, _, _⟩) (i := 3) (v := undef) rfl (by kernel_rfl) (by kernel_rfl) (by kernel_rfl) (fun _ _ _ h => h) (Or.inr ⟨by kernel_rfl, rfl⟩) ?_
            go_simp
            refine wpAny_take (oi := ⟨some 130, _, _, _, _, _⟩) (i := 4) (v := undef) rfl (by kernel_rfl) (by kernel_rfl) (by kernel_rfl) (fun _ _ _ h => h) (Or.inr ⟨by kernel_rfl, rfl⟩) ?_
            go_simp
            refine wpAny_take (oi := ⟨some 131, _, _, _, _, _⟩) (i := 5) (v := undef) rfl (by kernel_rfl) (by kernel_rfl) (by kernel_rfl) (fun _ _ _ h => h) (Or.inr ⟨by kernel_rfl, rfl⟩) ?_
            go_simp
            refine wpAny_take (oi := ⟨some 132, _, _, _, _, _⟩) (i := 6) (v := undef) rfl (by kernel_rfl) (by kernel_rfl) (by kernel_rfl) (fun _ _ _ h => h) (Or.inr ⟨by kernel_rfl, rfl⟩) ?_
            go_simp
            refine wpAny_take (oi := ⟨some 133, _, _, _, _, _⟩) (i := 7) (v := undef) rfl (by kernel_rfl) (by kernel_rfl) (by kernel_rfl) (fun _ _ _ h => h) (Or.inr ⟨by kernel_rfl, rfl⟩) ?_
            go_simp
            refine wpAny_take (oi := ⟨some 134, _, _, _, _, _⟩) (i := 8) (v := undef) rfl (by kernel_rfl) (by kernel_rfl) (by kernel_rfl) (fun _ _ _ h => h) (Or.inr ⟨by kernel_rfl, rfl⟩) ?_
            go_simp
            refine wpAny_take (oi := ⟨some 135, _, _, _, _, _⟩) (i := 9) (v := undef) rfl (by kernel_rfl) (by kernel_rfl) (by kernel_rfl) (fun _ _ _ h => h) (Or.inr ⟨by kernel_rfl, rfl⟩) ?_
            go_simp
            refine wpAny_take (oi := ⟨some 136, _, _, _, _, _⟩) (i := 10) (v := .bool false) rfl (by kernel_rfl) (by kernel_rfl) (by kernel_rfl) (fun _ _ _ h => h) (Or.inl ⟨by kernel_rfl, fun w => by go_simp⟩) ?_
            go_simp
            refine wpAny_done (by kernel_rfl) ?_ _
            have hb := (Below.refl wr.heap.size wr).drew
            have T0 := Lib.hid (T0.out.below hb)
            have T1 := Lib.hid (T1.out.below hb)
            have T2 := Lib.hid (T2.out.below hb)
            have TN := Lib.hid (TN.out.below hb)
            have TG := Lib.hid (TG.out.below hb)
            have RO := Lib.hid (owns_below RO.out hb)
            have RB := Lib.hid (RB.out.trans (hb.mono RB.out.size))
            clear hb
            generalize wr.drew = w8 at T0 T1 T2 TN TG RO RB ⊢
            obtain ⟨a3, c3, w9, hr3, ho3, hb3, _⟩ := appendA (w := w8) ⟨u0, u1, u2, u3, u4, u5⟩ HN2.out RO.out RB.out.size (by have := HLN.out _ hk; have := HN2.out; omega) 28
            simp only at hr3
            have R3 := Lib.hid hr3
            clear hr3
            have C8 := CC.out w8 (WB.out _ RB.out)
            obtain ⟨p0, p1, p2, p3, p4, p5⟩ := C8
            have q0 := T0B.out _ T0.out
            go_wp2_with (at_builtin; refine Lib.wpList_append_run _ rfl _ _ _ _ rfl _ _ rfl rfl _ _ R3.out ?_)
            clear p0 p1 p2 p3 p4 p5 q0
            have T0 := Lib.hid (blk_under T0.out hb3 T0L.out)
            have T1 := Lib.hid (blk_under T1.out hb3 T1L.out)
            have T2 := Lib.hid (blk_under T2.out hb3 T2L.out)
            have TN := Lib.hid (blk_under TN.out hb3 TNL.out)
            have TG := Lib.hid (blk_under TG.out hb3 TGL.out)
            have RB := Lib.hid (RB.out.trans hb3)
            have RO := Lib.hid ho3
            clear ho3 hb3
            go_wp2
            go_roundw
            case rel => exact ⟨k + 1, true, a3, n2 + 1, c3, by omega, by go_num, by first | (simp; omega) | simp, rfl, rfl, by rw [HPE.out, List.length_append, ← HN2.out]; rfl, by rw [HPE.out]; exact RO.out, RB.out⟩
            case measure => simp [intOf]; omega

        · obtain rfl : k = l.length := by omega
          have q0 := T0.out.cell
          by_cases h1 : N < l.length
          · obtain rfl : b = true := by rw [hb0]; simp; omega
            clear hb0
            have HE : Hid (wr.ownsRow wq.heap.size 44 6 (.slice a2 n2 c2) n2 (flatA (putIn l N (oneA X y v)))) := Lib.hid (by rw [← partIn_end h1]; exact RO.out)
            have HP : Hid (FreshShardI ⟨putIn l N (oneA X y v), lt, ov, 0⟩ mk w (.returned (.tuple #[.agg #[.slice a2 n2 c2, .int .i64 mk, .int .i64 lt, .int .i64 ov], .int .i64 0])) (((((wr.setCell ⟨w1.heap.size, 0, none⟩ (.slice a2 n2 c2)).setCell ⟨w.heap.size + 1 + 1, 0, none⟩ (.slice a2 n2 c2)).setCell ⟨w.heap.size + 1 + 1, 1, none⟩ (.int .i64 mk)).setCell ⟨w.heap.size + 1 + 1, 2, none⟩ (.int .i64 lt)).setCell ⟨w.heap.size + 1 + 1, 3, none⟩ (.int .i64 ov))) := by
              have hpl : n2 = (putIn l N (oneA X y v)).length := by rw [HN2.out, partIn_end h1]
              refine ⟨a2, c2, by rw [hpl], ?_, below_set4 ((WB.out _ RB.out).setCell (p := ⟨w1.heap.size, 0, none⟩) (show w.heap.size ≤ w1.heap.size by omega) _) (by omega) _ _ _ _⟩
              show World.ownsRow _ _ _ _ (.slice a2 (putIn l N (oneA X y v)).length c2) (putIn l N (oneA X y v)).length _
              rw [← hpl]
              exact row_keep4 (row_keep (owns_less HE.out (show w.heap.size ≤ wq.heap.size by omega)) TN.out 0 _).1 (T2.out.far_ (p := ⟨w1.heap.size, 0, none⟩) (show w.heap.size + 1 + 1 ≠ w1.heap.size by omega) _) _ _ _ _
            have qr := T2.out.cell
            have qn := TN.out.cell
            have fr := T2.out.frozen
            have fn := TN.out.frozen
            clear HE
            go_wp2
            exact bodyPost_ret (v := .tuple #[.agg #[.slice a2 n2 c2, .int .i64 mk, .int .i64 lt, .int .i64 ov], .int .i64 0]) (by simp [results, Try.results10, go_sem, qr]) rfl HP.out
          · obtain rfl : N = l.length := by omega
            obtain rfl : b = false := by rw [hb0]; simp
            clear hb0
            obtain ⟨a3, c3, w9, hr3, ho3, hb3, _⟩ := appendA (w := wr) ⟨X, y, 1, v, v, v⟩ HN2.out RO.out RB.out.size (by have := HLN.out _ hk; have := HN2.out; omega) 28
            simp only at hr3
            have R3 := Lib.hid hr3
            clear hr3
            have qg := TG.out.cell
            go_upto_region 28 with (at_builtin; refine Lib.wpList_append_run _ rfl _ _ _ _ rfl _ _ rfl rfl _ _ R3.out ?_)
            clear qg q0
            have T0 := Lib.hid (blk_under T0.out hb3 T0L.out)
            have T1 := Lib.hid (blk_under T1.out hb3 T1L.out)
            have T2 := Lib.hid (blk_under T2.out hb3 T2L.out)
            have TN := Lib.hid (blk_under TN.out hb3 TNL.out)
            have TG := Lib.hid (blk_under TG.out hb3 TGL.out)
            have RB := Lib.hid (RB.out.trans hb3)
            have RO := Lib.hid ho3
            clear ho3 hb3
            have HE : Hid (w9.ownsRow wq.heap.size 44 6 (.slice a3 (n2 + 1) c3) (n2 + 1) (flatA (putIn l l.length (oneA X y v)))) := Lib.hid (by rw [← partIn_last]; exact RO.out)
            have HP : Hid (FreshShardI ⟨putIn l l.length (oneA X y v), lt, ov, 0⟩ mk w (.returned (.tuple #[.agg #[.slice a3 (n2 + 1) c3, .int .i64 mk, .int .i64 lt, .int .i64 ov], .int .i64 0])) (((((w9.setCell ⟨w1.heap.size, 0, none⟩ (.slice a3 (n2 + 1) c3)).setCell ⟨w.heap.size + 1 + 1, 0, none⟩ (.slice a3 (n2 + 1) c3)).setCell ⟨w.heap.size + 1 + 1, 1, none⟩ (.int .i64 mk)).setCell ⟨w.heap.size + 1 + 1, 2, none⟩ (.int .i64 lt)).setCell ⟨w.heap.size + 1 + 1, 3, none⟩ (.int .i64 ov))) := by
              have hpl : (n2 + 1) = (putIn l l.length (oneA X y v)).length := by rw [← partIn_last, List.length_append, ← HN2.out]; rfl
              refine ⟨a3, c3, by rw [hpl], ?_, below_set4 ((WB.out _ RB.out).setCell (p := ⟨w1.heap.size, 0, none⟩) (show w.heap.size ≤ w1.heap.size by omega) _) (by omega) _ _ _ _⟩
              show World.ownsRow _ _ _ _ (.slice a3 (putIn l l.length (oneA X y v)).length c3) (putIn l l.length (oneA X y v)).length _
              rw [← hpl]
              exact row_keep4 (row_keep (owns_less HE.out (show w.heap.size ≤ wq.heap.size by omega)) TN.out 0 _).1 (T2.out.far_ (p := ⟨w1.heap.size, 0, none⟩) (show w.heap.size + 1 + 1 ≠ w1.heap.size by omega) _) _ _ _ _
            have qr := T2.out.cell
            have qn := TN.out.cell
            have fr := T2.out.frozen
            have fn := TN.out.frozen
            clear HE
            go_wp2
            exact bodyPost_ret (v := .tuple #[.agg #[.slice a3 (n2 + 1) c3, .int .i64 mk, .int .i64 lt, .int .i64 ov], .int .i64 0]) (by simp [results, Try.results10, go_sem, qr]) rfl HP.out
end Go.Proofs.Ytnnpppdgkbmieaa
