/- The contract of spec.AddEvent: an agg found. (made by tools/mkadds4.py) -/
import Derived.Test.YtnnpppdgkbmieaaAddSpec3
import Derived.Test.YtnnpppdgkbmieaaPut6
namespace Go.Proofs.Ytnnpppdgkbmieaa
open Go.RowKit

set_option maxHeartbeats 8000000 in
set_option maxRecDepth 100000 in
theorem specAdd_found (a : Option Addr) (n c : Nat) (mk lt ov sz rm k y t v : Int) (l : List Ag) (hi : Nat) (w : World) (hr : Ags w hi a c l) (hn : n = l.length) (hB : hi ≤ w.heap.size) (hlen : l.length ≤ 1048576) (hG : addGood l mk lt ov sz rm k y t v = true) (hL : ¬ windowEnd (windowOf t sz) sz ≤ mk) (hF : foundB l (oneA (windowOf t sz) y v) = true) :
    Calls Try.prog 10 #[.agg #[.slice a n c, .int .i64 mk, .int .i64 lt, .int .i64 ov], .int .i64 sz, .int .i64 rm, (.agg #[.int .i64 k, .int .i64 y, .int .i64 t, .int .i64 v])] w (FreshShardI (addR l mk lt ov sz rm k y t v) mk w) := by
  subst hn
  have hc1 := hr.cap
  have hc2 := hr.big
  have tt := three_new w 30 34 30 #[.slice a l.length c, .int .i64 mk, .int .i64 lt, .int .i64 ov] #[.int .i64 k, .int .i64 y, .int .i64 t, .int .i64 v] #[.slice none 0 0, .int .i64 0, .int .i64 0, .int .i64 0]
  have HN := Lib.hid (hr.below (tt.bel.mono hB))
  have TT := Lib.hid tt
  have HOK := Lib.hid (fun (W : World) (h : Ags W hi a c l) (h2 : hi ≤ W.heap.size) => specShardOk_any a l.length c mk lt ov l hi W h rfl h2)
  have HR0 := Lib.hid hr
  clear hr tt
  obtain ⟨hS, hZ, hR, rfl, hE⟩ := addGood_inv hG
  rw [hS] at HOK
  have CZ := Lib.hid (fun W => specIn_any sz (1) (1000000) W)
  rw [hZ] at CZ
  have CR := Lib.hid (fun W => specIn_any rm (1) (40) W)
  rw [hR] at CR
  have CE := Lib.hid (fun W => specFrameOk_any 1 y t v W)
  rw [hE] at CE
  have CW := Lib.hid (fun W => winOfS_q t sz W)
  have CN := Lib.hid (fun W => winEndS_q (windowOf t sz) sz W)
  have hb0 := aggOk_bd ((sok_bd hS).2.2.2.2 _ (foundB_lt hF).1).1
  have hvb := isEv_v (show isEv 1 y t v = true by simp [isEv, hE])
  rw [addR_found hG hL hF]
  have hb1 : (-1000000000 ≤ (ael l (placeN l (oneA (windowOf t sz) y v))).cnt ∧ (ael l (placeN l (oneA (windowOf t sz) y v))).cnt ≤ 1000000000) ∧ (-1000000000 ≤ (ael l (placeN l (oneA (windowOf t sz) y v))).sum ∧ (ael l (placeN l (oneA (windowOf t sz) y v))).sum ≤ 1000000000) := by omega
  have HV := Lib.hid hvb
  have hN := (foundB_lt hF).1
  have hW := like_iff (like_at hF)
  have HD : Hid (∀ k, k < placeN l (oneA (windowOf t sz) y v) → ¬ ((ael l k).win = windowOf t sz ∧ (ael l k).key = y)) := Lib.hid (fun k hk => unlike_iff (unlike_lt hk))
  have HW : Hid ((ael l (placeN l (oneA (windowOf t sz) y v))).win = windowOf t sz ∧ (ael l (placeN l (oneA (windowOf t sz) y v))).key = y) := Lib.hid hW
  have HBD := Lib.hid hb1
  clear hS hZ hR hE hG hF hb1 hb0 hvb hW
  generalize windowOf t sz = X at CW CN hL HD HW HBD hN ⊢
  generalize windowEnd X sz = E at CN hL
  generalize placeN l (oneA X y v) = N at HD HW HBD hN ⊢
  have HS1 := Lib.hid True.intro
  go_enter Try.func10, Try.ntmps10
  go_wp2_with fail
  refine (specCopy_any a _ c mk lt ov l _ _ HN.out rfl (by simp; omega) hlen).mono ?_
  rintro e w1 ⟨a1, c1, rfl, ho, hb⟩
  obtain ⟨g1, ha1, hg1, hg2⟩ := ownR_block ho (by omega)
  simp only [World.size_alloc] at hg1
  subst ha1
  have HG1 := Lib.hid (And.intro hg1 hg2)
  clear hg1 hg2
  have s1 := hb.size
  simp only [World.size_alloc] at s1
  have T0 := Lib.hid ((TT.out.a.below hb).alloc (.cells #[.slice (some ⟨g1, 0, none⟩) l.length c1, .int .i64 mk, .int .i64 lt, .int .i64 ov] 30))
  have T1 := Lib.hid ((TT.out.b.below hb).alloc (.cells #[.slice (some ⟨g1, 0, none⟩) l.length c1, .int .i64 mk, .int .i64 lt, .int .i64 ov] 30))
  have T2 := Lib.hid ((TT.out.c.below hb).alloc (.cells #[.slice (some ⟨g1, 0, none⟩) l.length c1, .int .i64 mk, .int .i64 lt, .int .i64 ov] 30))
  have TN := Lib.hid (Blk.new w1 30 #[.slice (some ⟨g1, 0, none⟩) l.length c1, .int .i64 mk, .int .i64 lt, .int .i64 ov])
  have TO := Lib.hid ((owns_less ho (show w.heap.size ≤ _ by simp; omega)).alloc (.cells #[.slice (some ⟨g1, 0, none⟩) l.length c1, .int .i64 mk, .int .i64 lt, .int .i64 ov] 30))
  have TB := Lib.hid ((TT.out.bel.trans (hb.mono (by simp; omega))).alloc (by omega) (.cells #[.slice (some ⟨g1, 0, none⟩) l.length c1, .int .i64 mk, .int .i64 lt, .int .i64 ov] 30))
  have TA := Lib.hid ((HN.out.below (hb.mono (by simp; omega))).below ((Below.refl hi w1).alloc (by omega) (.cells #[.slice (some ⟨g1, 0, none⟩) l.length c1, .int .i64 mk, .int .i64 lt, .int .i64 ov] 30)))
  clear ho hb
  have q0 := T0.out.cell
  have qf := T1.out.cell
  have qr := T2.out.cell
  have qn := TN.out.cell
  have fr := T2.out.frozen
  have fn := TN.out.frozen
  go_wp2_with fail
  refine (HOK.out _ TA.out (by simp; omega)).mono ?_
  rintro e w2 ⟨rfl, hb⟩
  have T0 := Lib.hid (T0.out.below hb)
  have T1 := Lib.hid (T1.out.below hb)
  have T2 := Lib.hid (T2.out.below hb)
  have TN := Lib.hid (TN.out.below hb)
  have TO := Lib.hid (owns_below TO.out hb)
  have TB := Lib.hid (TB.out.trans (hb.mono TB.out.size))
  have s2 := hb.size
  simp only [World.size_alloc] at s2
  clear hb
  clear q0 qf qr qn fr fn
  have q0 := T0.out.cell
  have qf := T1.out.cell
  have qr := T2.out.cell
  have qn := TN.out.cell
  have fr := T2.out.frozen
  have fn := TN.out.frozen
  go_wp2_with fail
  refine (CZ.out _).mono ?_
  rintro e w' ⟨rfl, rfl⟩
  go_wp2_with fail
  refine (CR.out _).mono ?_
  rintro e w' ⟨rfl, rfl⟩
  go_wp2_with fail
  refine (CE.out _).mono ?_
  rintro e w3 ⟨rfl, hb⟩
  have T0 := Lib.hid (T0.out.below hb)
  have T1 := Lib.hid (T1.out.below hb)
  have T2 := Lib.hid (T2.out.below hb)
  have TN := Lib.hid (TN.out.below hb)
  have TO := Lib.hid (owns_below TO.out hb)
  have TB := Lib.hid (TB.out.trans (hb.mono TB.out.size))
  have s3 := hb.size
  clear hb
  clear q0 qf qr qn fr fn
  have q0 := T0.out.cell
  have qf := T1.out.cell
  have qr := T2.out.cell
  have qn := TN.out.cell
  have fr := T2.out.frozen
  have fn := TN.out.frozen
  go_wp2_with fail
  have d1 : w3.drew.cell? ⟨w.heap.size + 1, 1, none⟩ = some (.int .i64 y) := T1.out.drew.cell 1
  have d2 : w3.drew.cell? ⟨w.heap.size + 1, 2, none⟩ = some (.int .i64 t) := T1.out.drew.cell 2
  have d3 : w3.drew.cell? ⟨w.heap.size + 1, 3, none⟩ = some (.int .i64 v) := T1.out.drew.cell 3
  have z1 : (w3.alloc (.cells #[.int .i64 0, .int .i64 0, .int .i64 0, .int .i64 0, .int .i64 0, .int .i64 0] 44)).drew.cell? ⟨w.heap.size + 1, 1, none⟩ = some (.int .i64 y) := (T1.out.alloc (.cells #[.int .i64 0, .int .i64 0, .int .i64 0, .int .i64 0, .int .i64 0, .int .i64 0] 44)).drew.cell 1
  have z2 : (w3.alloc (.cells #[.int .i64 0, .int .i64 0, .int .i64 0, .int .i64 0, .int .i64 0, .int .i64 0] 44)).drew.cell? ⟨w.heap.size + 1, 2, none⟩ = some (.int .i64 t) := (T1.out.alloc (.cells #[.int .i64 0, .int .i64 0, .int .i64 0, .int .i64 0, .int .i64 0, .int .i64 0] 44)).drew.cell 2
  have z3 : (w3.alloc (.cells #[.int .i64 0, .int .i64 0, .int .i64 0, .int .i64 0, .int .i64 0, .int .i64 0] 44)).drew.cell? ⟨w.heap.size + 1, 3, none⟩ = some (.int .i64 v) := (T1.out.alloc (.cells #[.int .i64 0, .int .i64 0, .int .i64 0, .int .i64 0, .int .i64 0, .int .i64 0] 44)).drew.cell 3
  have y1 : (w3.alloc (.cells #[.int .i64 X, .int .i64 y, .int .i64 1, .int .i64 v, .int .i64 v, .int .i64 v] 44)).drew.cell? ⟨w.heap.size + 1, 1, none⟩ = some (.int .i64 y) := (T1.out.alloc (.cells #[.int .i64 X, .int .i64 y, .int .i64 1, .int .i64 v, .int .i64 v, .int .i64 v] 44)).drew.cell 1
  have y2 : (w3.alloc (.cells #[.int .i64 X, .int .i64 y, .int .i64 1, .int .i64 v, .int .i64 v, .int .i64 v] 44)).drew.cell? ⟨w.heap.size + 1, 2, none⟩ = some (.int .i64 t) := (T1.out.alloc (.cells #[.int .i64 X, .int .i64 y, .int .i64 1, .int .i64 v, .int .i64 v, .int .i64 v] 44)).drew.cell 2
  have y3 : (w3.alloc (.cells #[.int .i64 X, .int .i64 y, .int .i64 1, .int .i64 v, .int .i64 v, .int .i64 v] 44)).drew.cell? ⟨w.heap.size + 1, 3, none⟩ = some (.int .i64 v) := (T1.out.alloc (.cells #[.int .i64 X, .int .i64 y, .int .i64 1, .int .i64 v, .int .i64 v, .int .i64 v] 44)).drew.cell 3
  clear q0 qf qr qn fr fn
  apply meetP
  case f =>
    intro HG4
    go_region_held3 (fun W => W.cell? ⟨w.heap.size + 1, 1, none⟩ = some (.int .i64 y) ∧ W.cell? ⟨w.heap.size + 1, 2, none⟩ = some (.int .i64 t) ∧ W.cell? ⟨w.heap.size + 1, 3, none⟩ = some (.int .i64 v))
      (first | exact ⟨d1, d2, d3⟩ | exact ⟨z1, z2, z3⟩ | exact ⟨y1, y2, y3⟩)
      (first | (go_at_call 40; refine (CW.out _).mono ?_; rintro e w' ⟨rfl, rfl⟩))
    all_goals exact HG4
  clear d1 d2 d3 z1 z2 z3 y1 y2 y3
  have T0 := Lib.hid (T0.out.alloc (.cells #[.int .i64 X, .int .i64 y, .int .i64 1, .int .i64 v, .int .i64 v, .int .i64 v] 44))
  have T1 := Lib.hid (T1.out.alloc (.cells #[.int .i64 X, .int .i64 y, .int .i64 1, .int .i64 v, .int .i64 v, .int .i64 v] 44))
  have T2 := Lib.hid (T2.out.alloc (.cells #[.int .i64 X, .int .i64 y, .int .i64 1, .int .i64 v, .int .i64 v, .int .i64 v] 44))
  have TN := Lib.hid (TN.out.alloc (.cells #[.int .i64 X, .int .i64 y, .int .i64 1, .int .i64 v, .int .i64 v, .int .i64 v] 44))
  have TO := Lib.hid (TO.out.alloc (.cells #[.int .i64 X, .int .i64 y, .int .i64 1, .int .i64 v, .int .i64 v, .int .i64 v] 44))
  have TB := Lib.hid (TB.out.alloc TB.out.size (.cells #[.int .i64 X, .int .i64 y, .int .i64 1, .int .i64 v, .int .i64 v, .int .i64 v] 44))
  have TG := Lib.hid (Blk.new w3 44 #[.int .i64 X, .int .i64 y, .int .i64 1, .int .i64 v, .int .i64 v, .int .i64 v])
  have T0 := Lib.hid (T0.out.drew)
  have T1 := Lib.hid (T1.out.drew)
  have T2 := Lib.hid (T2.out.drew)
  have TN := Lib.hid (TN.out.drew)
  have TG := Lib.hid (TG.out.drew)
  have TO := Lib.hid (TO.out.drew)
  have TB := Lib.hid (TB.out.drew)
  have s4 : (w3.alloc (.cells #[.int .i64 X, .int .i64 y, .int .i64 1, .int .i64 v, .int .i64 v, .int .i64 v] 44)).drew.heap.size = w3.heap.size + 1 := by simp
  generalize (w3.alloc (.cells #[.int .i64 X, .int .i64 y, .int .i64 1, .int .i64 v, .int .i64 v, .int .i64 v] 44)).drew = w5 at T0 T1 T2 TN TG TO TB s4 ⊢
  have q0 := T0.out.cell
  have qf := T1.out.cell
  have qr := T2.out.cell
  have qn := TN.out.cell
  have qg := TG.out.cell
  have fr := T2.out.frozen
  have fn := TN.out.frozen
  go_wp2_with fail
  go_still_tail 6, (by kernel_rfl)
  still_call (CN.out _)
  repeat still_step
  refine wpStill_nil ?_
  change wpList _ _ _ _ _ w5.drew
  have T0 := Lib.hid (T0.out.drew)
  have T1 := Lib.hid (T1.out.drew)
  have T2 := Lib.hid (T2.out.drew)
  have TN := Lib.hid (TN.out.drew)
  have TG := Lib.hid (TG.out.drew)
  have TO := Lib.hid (TO.out.drew)
  have TB := Lib.hid (TB.out.drew)
  have s6 : w5.drew.heap.size = w5.heap.size := by simp
  generalize w5.drew = w6 at T0 T1 T2 TN TG TO TB s6 ⊢
  clear q0 qf qr qn qg fr fn
  have q0 := T0.out.cell
  have qf := T1.out.cell
  have qr := T2.out.cell
  have qn := TN.out.cell
  have qg := TG.out.cell
  have fr := T2.out.frozen
  have fn := TN.out.frozen
  go_wp2
  go_loopw [12] (fun i wr => ∃ k : Nat, k ≤ N ∧ i = .int .i64 k ∧ Below w6.heap.size w6 wr) (fun i _ => l.length - (intOf i).toNat)
  case atStart => exact ⟨0, Nat.zero_le _, rfl, Below.refl _ _⟩
  case round =>
    obtain ⟨k, hk, rfl, hb⟩ := hrel
    have T0 := Lib.hid (T0.out.below hb)
    have T1 := Lib.hid (T1.out.below hb)
    have T2 := Lib.hid (T2.out.below hb)
    have TN := Lib.hid (TN.out.below hb)
    have TG := Lib.hid (TG.out.below hb)
    have TO := Lib.hid (owns_below TO.out hb)
    have TB := Lib.hid (TB.out.trans (hb.mono TB.out.size))
    have sr := hb.size
    have HB := Lib.hid hb
    clear hb
    have HA := Lib.hid (HR0.out.below (TB.out.mono hB))
    clear q0 qf qr qn qg fr fn
    have q0 := T0.out.cell
    have qf := T1.out.cell
    have qr := T2.out.cell
    have qn := TN.out.cell
    have qg := TG.out.cell
    have fr := T2.out.frozen
    have fn := TN.out.frozen
    by_cases hlt : k < N
    · have hlt2 : k < l.length := by omega
      have hlt' : (k : Int) < (l.length : Int) := by omega
      have hnn : 0 ≤ (k : Int) := by omega
      obtain ⟨b1, off, ha, hbh, hcell⟩ := Ags.six HA.out (by omega)
      rw [ha] at q0
      clear ha
      obtain ⟨p0, p1, p2, p3, p4, p5⟩ := hcell k hlt2
      have HU := HD.out k hlt
      clear hcell p2 p3 p4 p5
      generalize ael l k = S at p0 p1 HU
      obtain ⟨u0, u1, u2, u3, u4, u5⟩ := S
      simp only at p0 p1 HU
      by_cases h0 : u0 = X
      · subst h0
        have h1 : ¬ u1 = y := fun h => HU ⟨rfl, h⟩
        have hd1 : decide (u1 = y) = false := by simp [h1]
        clear HU
        go_wp2_with fail
        go_quiet (fail)
        go_wp2
        go_roundw
        case rel => exact ⟨k + 1, by omega, by go_num, below_drewN HB.out _⟩
        case measure => simp [intOf]; omega
      · have hd0 : decide (u0 = X) = false := by simp [h0]
        clear HU
        go_wp2_with fail
        go_quiet (fail)
        go_wp2
        go_roundw
        case rel => exact ⟨k + 1, by omega, by go_num, below_drewN HB.out _⟩
        case measure => simp [intOf]; omega
    · obtain rfl : k = N := by omega
      have hlt2 : k < l.length := by omega
      have hlt' : (k : Int) < (l.length : Int) := by omega
      have hnn : 0 ≤ (k : Int) := by omega
      obtain ⟨b1, off, ha, hbh, hcell⟩ := Ags.six HA.out (by omega)
      obtain ⟨p0, p1, p2, p3, p4, p5⟩ := hcell k hlt2
      have CC : Hid (∀ W, Below w.heap.size w W → W.cell? ⟨b1, off + k * 6, none⟩ = some (.int .i64 (ael l k).win) ∧ W.cell? ⟨b1, off + k * 6 + 1, none⟩ = some (.int .i64 (ael l k).key) ∧ W.cell? ⟨b1, off + k * 6 + 2, none⟩ = some (.int .i64 (ael l k).cnt) ∧ W.cell? ⟨b1, off + k * 6 + 3, none⟩ = some (.int .i64 (ael l k).sum) ∧ W.cell? ⟨b1, off + k * 6 + 4, none⟩ = some (.int .i64 (ael l k).mn) ∧ W.cell? ⟨b1, off + k * 6 + 5, none⟩ = some (.int .i64 (ael l k).mx)) := Lib.hid (fun W hW => by
        obtain ⟨b2, off2, ha2, hb2, hc2⟩ := Ags.six (HR0.out.below (hW.mono hB)) (by omega)
        rw [ha] at ha2
        injection ha2 with ha2
        injection ha2 with e1 e2
        subst e1 e2
        exact hc2 k hlt2)
      have T0B : Hid (∀ W, Blk W w.heap.size 30 #[.slice a l.length c, .int .i64 mk, .int .i64 lt, .int .i64 ov] → W.cell? ⟨w.heap.size, 0, none⟩ = some (.slice (some ⟨b1, off, none⟩) l.length c)) := Lib.hid (fun W h => by rw [← ha]; exact h.cell 0)
      rw [ha] at q0
      clear ha
      have HPS := HS1.out
      clear hcell
      have WX := HW.out
      have BX := HBD.out
      generalize hS9 : ael l k = S at p0 p1 p2 p3 p4 p5 CC WX BX
      have HS9 := Lib.hid hS9
      clear hS9 HPS
      obtain ⟨u0, u1, u2, u3, u4, u5⟩ := S
      simp only at p0 p1 p2 p3 p4 p5 CC WX BX
      have E0 := Lib.hid T0.out
      have E2 := Lib.hid T2.out
      have EN := Lib.hid TN.out
      have EG := Lib.hid TG.out
      have EO := Lib.hid TO.out
      have EB := Lib.hid TB.out
      obtain ⟨rfl, rfl⟩ := WX
      go_wp2_with fail
      go_quiet (fail)
      have D0 := Lib.hid (show Blk (wr.drewN nq) _ _ _ from E0.out)
      have D2 := Lib.hid (show Blk (wr.drewN nq) _ _ _ from E2.out)
      have DN := Lib.hid (show Blk (wr.drewN nq) _ _ _ from EN.out)
      have DG := Lib.hid (show Blk (wr.drewN nq) _ _ _ from EG.out)
      have DO := Lib.hid (show (wr.drewN nq).ownsRow _ _ _ _ _ _ from EO.out)
      have DB := Lib.hid (below_drewN EB.out nq)
      have s7 : (wr.drewN nq).heap.size = wr.heap.size := rfl
      clear q0 qf qr qn qg fr fn p0 p1 p2 p3 p4 p5
      generalize wr.drewN nq = w7 at D0 D2 DN DG DO DB s7 ⊢
      obtain ⟨y2, hy2⟩ : ∃ y, y = capS (u2 + 1) := ⟨_, rfl⟩
      obtain ⟨y3, hy3⟩ : ∃ y, y = capS (u3 + v) := ⟨_, rfl⟩
      obtain ⟨y4, hy4⟩ : ∃ y, y = minI u4 v := ⟨_, rfl⟩
      obtain ⟨y5, hy5⟩ : ∃ y, y = maxI u5 v := ⟨_, rfl⟩
      have CS : Hid (∀ W, Calls Try.prog 43 #[(.agg #[.int .i64 u0, .int .i64 u1, .int .i64 u2, .int .i64 u3, .int .i64 u4, .int .i64 u5]), (.agg #[.int .i64 u0, .int .i64 u1, .int .i64 1, .int .i64 v, .int .i64 v, .int .i64 v])] W fun e w' => e = .returned (.agg #[.int .i64 u0, .int .i64 u1, .int .i64 y2, .int .i64 y3, .int .i64 y4, .int .i64 y5]) ∧ Below W.heap.size W w') := Lib.hid (fun W => by rw [hy2, hy3, hy4, hy5]; exact specSum_x u0 u1 u2 u3 u4 u5 u0 u1 1 v v v W BX.1 BX.2 (by omega) (by have := HV.out; omega))
      have HY := Lib.hid (And.intro hy2 (And.intro hy3 (And.intro hy4 hy5)))
      have hg1 := HG1.out
      have h0 : g1 ≠ w.heap.size := by omega
      have h1 : g1 ≠ w1.heap.size := by omega
      have h2 : g1 ≠ w3.heap.size := by omega
      have h3 : g1 ≠ b1 := by omega
      clear hg1
      have H4 := Lib.hid (And.intro h0 (And.intro h1 (And.intro h2 h3)))
      clear hy2 hy3 hy4 hy5 h0 h1 h2 h3
      go_wp2_with fail
      have C7 := CC.out w7.drew DB.out.drew
      have d0 : w7.drew.cell? ⟨w1.heap.size, 0, none⟩ = some (.slice (some ⟨g1, 0, none⟩) l.length c1) := DN.out.drew.cell 0
      have d1 : w7.drew.cell? ⟨w.heap.size, 0, none⟩ = some (.slice (some ⟨b1, off, none⟩) l.length c) := T0B.out _ D0.out.drew
      have d2 : w7.drew.cell? ⟨b1, off + k * 6, none⟩ = some (.int .i64 u0) := C7.1
      have d3 : w7.drew.cell? ⟨b1, off + k * 6 + 1, none⟩ = some (.int .i64 u1) := C7.2.1
      have d4 : w7.drew.cell? ⟨b1, off + k * 6 + 2, none⟩ = some (.int .i64 u2) := C7.2.2.1
      have d5 : w7.drew.cell? ⟨b1, off + k * 6 + 3, none⟩ = some (.int .i64 u3) := C7.2.2.2.1
      have d6 : w7.drew.cell? ⟨b1, off + k * 6 + 4, none⟩ = some (.int .i64 u4) := C7.2.2.2.2.1
      have d7 : w7.drew.cell? ⟨b1, off + k * 6 + 5, none⟩ = some (.int .i64 u5) := C7.2.2.2.2.2
      have d8 : w7.drew.cell? ⟨w3.heap.size, 0, none⟩ = some (.int .i64 u0) := DG.out.drew.cell 0
      have d9 : w7.drew.cell? ⟨w3.heap.size, 1, none⟩ = some (.int .i64 u1) := DG.out.drew.cell 1
      have d10 : w7.drew.cell? ⟨w3.heap.size, 2, none⟩ = some (.int .i64 1) := DG.out.drew.cell 2
      have d11 : w7.drew.cell? ⟨w3.heap.size, 3, none⟩ = some (.int .i64 v) := DG.out.drew.cell 3
      have d12 : w7.drew.cell? ⟨w3.heap.size, 4, none⟩ = some (.int .i64 v) := DG.out.drew.cell 4
      have d13 : w7.drew.cell? ⟨w3.heap.size, 5, none⟩ = some (.int .i64 v) := DG.out.drew.cell 5
      have fo := DO.out.drew.frozenAt
      obtain ⟨m0, m1, m2, m3, m4, m5⟩ := own_ag DO.out.drew k hlt2
      clear BX
      clear hlt hL
      go_region_held3 (fun W => W.cell? ⟨w1.heap.size, 0, none⟩ = some (.slice (some ⟨g1, 0, none⟩) l.length c1) ∧ W.cell? ⟨w.heap.size, 0, none⟩ = some (.slice (some ⟨b1, off, none⟩) l.length c) ∧ W.cell? ⟨b1, off + k * 6, none⟩ = some (.int .i64 u0) ∧ W.cell? ⟨b1, off + k * 6 + 1, none⟩ = some (.int .i64 u1) ∧ W.cell? ⟨b1, off + k * 6 + 2, none⟩ = some (.int .i64 u2) ∧ W.cell? ⟨b1, off + k * 6 + 3, none⟩ = some (.int .i64 u3) ∧ W.cell? ⟨b1, off + k * 6 + 4, none⟩ = some (.int .i64 u4) ∧ W.cell? ⟨b1, off + k * 6 + 5, none⟩ = some (.int .i64 u5) ∧ W.cell? ⟨w3.heap.size, 0, none⟩ = some (.int .i64 u0) ∧ W.cell? ⟨w3.heap.size, 1, none⟩ = some (.int .i64 u1) ∧ W.cell? ⟨w3.heap.size, 2, none⟩ = some (.int .i64 1) ∧ W.cell? ⟨w3.heap.size, 3, none⟩ = some (.int .i64 v) ∧ W.cell? ⟨w3.heap.size, 4, none⟩ = some (.int .i64 v) ∧ W.cell? ⟨w3.heap.size, 5, none⟩ = some (.int .i64 v))
        (first | with_reducible exact ⟨d0, d1, d2, d3, d4, d5, d6, d7, d8, d9, d10, d11, d12, d13⟩ | with_reducible exact ⟨e0, e1, e2, e3, e4, e5, e6, e7, e8, e9, e10, e11, e12, e13⟩ | exact ⟨putAg_cell e0 H4.out.2.1 _ _ _ _ _ _ _, putAg_cell e1 H4.out.1 _ _ _ _ _ _ _, putAg_cell e2 H4.out.2.2.2 _ _ _ _ _ _ _, putAg_cell e3 H4.out.2.2.2 _ _ _ _ _ _ _, putAg_cell e4 H4.out.2.2.2 _ _ _ _ _ _ _, putAg_cell e5 H4.out.2.2.2 _ _ _ _ _ _ _, putAg_cell e6 H4.out.2.2.2 _ _ _ _ _ _ _, putAg_cell e7 H4.out.2.2.2 _ _ _ _ _ _ _, putAg_cell e8 H4.out.2.2.1 _ _ _ _ _ _ _, putAg_cell e9 H4.out.2.2.1 _ _ _ _ _ _ _, putAg_cell e10 H4.out.2.2.1 _ _ _ _ _ _ _, putAg_cell e11 H4.out.2.2.1 _ _ _ _ _ _ _, putAg_cell e12 H4.out.2.2.1 _ _ _ _ _ _ _, putAg_cell e13 H4.out.2.2.1 _ _ _ _ _ _ _⟩)
        (first | (go_at_call 43; refine (CS.out _).mono ?_; rintro e w8 ⟨rfl, hb⟩; clear d0 d1 d2 d3 d4 d5 d6 d7 d8 d9 d10 d11 d12 d13 m0 m1 m2 m3 m4 m5 fo; have D0 := Lib.hid (D0.out.drew.below hb); have D2 := Lib.hid (D2.out.drew.below hb); have DN := Lib.hid (DN.out.drew.below hb); have DG := Lib.hid (DG.out.drew.below hb); have DO := Lib.hid (owns_below DO.out.drew hb); have DB := Lib.hid (DB.out.drew.trans (hb.mono DB.out.drew.size)); clear hb; have C8 := CC.out w8 DB.out; have e0 : w8.cell? ⟨w1.heap.size, 0, none⟩ = some (.slice (some ⟨g1, 0, none⟩) l.length c1) := DN.out.cell 0; have e1 : w8.cell? ⟨w.heap.size, 0, none⟩ = some (.slice (some ⟨b1, off, none⟩) l.length c) := T0B.out _ D0.out; have e2 : w8.cell? ⟨b1, off + k * 6, none⟩ = some (.int .i64 u0) := C8.1; have e3 : w8.cell? ⟨b1, off + k * 6 + 1, none⟩ = some (.int .i64 u1) := C8.2.1; have e4 : w8.cell? ⟨b1, off + k * 6 + 2, none⟩ = some (.int .i64 u2) := C8.2.2.1; have e5 : w8.cell? ⟨b1, off + k * 6 + 3, none⟩ = some (.int .i64 u3) := C8.2.2.2.1; have e6 : w8.cell? ⟨b1, off + k * 6 + 4, none⟩ = some (.int .i64 u4) := C8.2.2.2.2.1; have e7 : w8.cell? ⟨b1, off + k * 6 + 5, none⟩ = some (.int .i64 u5) := C8.2.2.2.2.2; have e8 : w8.cell? ⟨w3.heap.size, 0, none⟩ = some (.int .i64 u0) := DG.out.cell 0; have e9 : w8.cell? ⟨w3.heap.size, 1, none⟩ = some (.int .i64 u1) := DG.out.cell 1; have e10 : w8.cell? ⟨w3.heap.size, 2, none⟩ = some (.int .i64 1) := DG.out.cell 2; have e11 : w8.cell? ⟨w3.heap.size, 3, none⟩ = some (.int .i64 v) := DG.out.cell 3; have e12 : w8.cell? ⟨w3.heap.size, 4, none⟩ = some (.int .i64 v) := DG.out.cell 4; have e13 : w8.cell? ⟨w3.heap.size, 5, none⟩ = some (.int .i64 v) := DG.out.cell 5; have fo := DO.out.frozenAt; obtain ⟨m0, m1, m2, m3, m4, m5⟩ := own_ag DO.out k hlt2))
      clear e0 e1 e2 e3 e4 e5 e6 e7 e8 e9 e10 e11 e12 e13 m0 m1 m2 m3 m4 m5 fo
      have P1 := Lib.hid (putAg_own DO.out hlt2 u0 u1 y2 y3 y4 y5).1
      have P2 := Lib.hid (putAg_blk D2.out (show w.heap.size + 1 + 1 ≠ g1 by have := HG1.out; omega) (k * 6) u0 u1 y2 y3 y4 y5)
      have PN := Lib.hid (putAg_blk DN.out (fun h => H4.out.2.1 h.symm) (k * 6) u0 u1 y2 y3 y4 y5)
      have PB := Lib.hid (putAg_below DB.out (show w.heap.size ≤ g1 by have := HG1.out; omega) (k * 6) u0 u1 y2 y3 y4 y5)
      have HY := HY.out
      have hR : sumA ⟨u0, u1, u2, u3, u4, u5⟩ (oneA u0 u1 v) = ⟨u0, u1, y2, y3, y4, y5⟩ := by rw [HY.1, HY.2.1, HY.2.2.1, HY.2.2.2]; rfl
      have HR := Lib.hid hR
      clear HS9 HY hR D0 D2 DN DG DO DB C7 C8
      obtain ⟨W9, hW9⟩ : ∃ W9, W9 = putAg w8 g1 (k * 6) u0 u1 y2 y3 y4 y5 := ⟨_, rfl⟩
      rw [← hW9] at P1 P2 PN PB
      unfold putAg at hW9
      rw [← hW9]
      clear hW9
      have qr := P2.out.cell
      have qn := PN.out.cell
      have fr := P2.out.frozen
      have HP : Hid (FreshShardI ⟨l.set k (sumA ⟨u0, u1, u2, u3, u4, u5⟩ (oneA u0 u1 v)), lt, ov, 0⟩ mk w (.returned (.tuple #[.agg #[.slice (some ⟨g1, 0, none⟩) l.length c1, .int .i64 mk, .int .i64 lt, .int .i64 ov], .int .i64 0])) ((((W9.setCell ⟨w.heap.size + 1 + 1, 0, none⟩ (.slice (some ⟨g1, 0, none⟩) l.length c1)).setCell ⟨w.heap.size + 1 + 1, 1, none⟩ (.int .i64 mk)).setCell ⟨w.heap.size + 1 + 1, 2, none⟩ (.int .i64 lt)).setCell ⟨w.heap.size + 1 + 1, 3, none⟩ (.int .i64 ov))) := by
        rw [HR.out]
        have hpl : (l.set k (⟨u0, u1, y2, y3, y4, y5⟩ : Ag)).length = l.length := List.length_set
        refine ⟨some ⟨g1, 0, none⟩, c1, by rw [hpl], ?_, below_set4 PB.out (by omega) _ _ _ _⟩
        show World.ownsRow _ _ _ _ (.slice (some ⟨g1, 0, none⟩) (l.set k (⟨u0, u1, y2, y3, y4, y5⟩ : Ag)).length c1) (l.set k (⟨u0, u1, y2, y3, y4, y5⟩ : Ag)).length _
        rw [hpl]
        exact row_keep4 P1.out P2.out _ _ _ _
      go_wp2
      exact bodyPost_ret (v := .tuple #[.agg #[.slice (some ⟨g1, 0, none⟩) l.length c1, .int .i64 mk, .int .i64 lt, .int .i64 ov], .int .i64 0]) (by simp [results, Try.results10, go_sem, qr]) rfl HP.out
end Go.Proofs.Ytnnpppdgkbmieaa
