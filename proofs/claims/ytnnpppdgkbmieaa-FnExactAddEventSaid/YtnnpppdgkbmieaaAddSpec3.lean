/- The contract of spec.AddEvent: a full shard. (made by tools/mkadds3.py) -/
import Derived.Test.YtnnpppdgkbmieaaPlainAdd2
import Derived.Deep.QuietTactic
import Derived.BigQuiet
namespace Go.Proofs.Ytnnpppdgkbmieaa
open Go.RowKit

set_option maxHeartbeats 8000000 in
set_option maxRecDepth 100000 in
theorem specAdd_full (a : Option Addr) (n c : Nat) (mk lt ov sz rm k y t v : Int) (l : List Ag) (hi : Nat) (w : World) (hr : Ags w hi a c l) (hn : n = l.length) (hB : hi ≤ w.heap.size) (hlen : l.length ≤ 1048576) (hG : addGood l mk lt ov sz rm k y t v = true) (hL : ¬ windowEnd (windowOf t sz) sz ≤ mk) (hF : foundB l (oneA (windowOf t sz) y v) = false) (hM : rm ≤ (l.length : Int)) :
    Calls Try.prog 10 #[.agg #[.slice a n c, .int .i64 mk, .int .i64 lt, .int .i64 ov], .int .i64 sz, .int .i64 rm, (.agg #[.int .i64 k, .int .i64 y, .int .i64 t, .int .i64 v])] w (FreshShardI (addR l mk lt ov sz rm k y t v) mk w) := by
  subst hn
  have hc1 := hr.cap
  have hc2 := hr.big
  have tt := three_new w 30 34 30 #[.slice a l.length c, .int .i64 mk, .int .i64 lt, .int .i64 ov] #[.int .i64 k, .int .i64 y, .int .i64 t, .int .i64 v] #[.slice none 0 0, .int .i64 0, .int .i64 0, .int .i64 0]
  have HN := Lib.hid (hr.below (tt.bel.mono hB))
  have TT := Lib.hid tt
  have HOK := Lib.hid (fun (W : World) (h : Ags W hi a c l) (h2 : hi ≤ W.heap.size) => specShardOk_any a l.length c mk lt ov l hi W h rfl h2)
  have HR0 := Lib.hid hr
  clear hr tt
  obtain ⟨hS, hZ, hR, rfl, hE⟩ := addGood_inv hG
  rw [hS] at HOK
  have CZ := Lib.hid (fun W => specIn_any sz (1) (1000000) W)
  rw [hZ] at CZ
  have CR := Lib.hid (fun W => specIn_any rm (1) (40) W)
  rw [hR] at CR
  have CE := Lib.hid (fun W => specFrameOk_any 1 y t v W)
  rw [hE] at CE
  have CW := Lib.hid (fun W => winOfS_q t sz W)
  have CN := Lib.hid (fun W => winEndS_q (windowOf t sz) sz W)
  have hovb := inB_bd (sok_bd hS).2.2.2.1
  have hok := (sok_bd hS).2.2.2.2
  rw [addR_full hG hL hF hM]
  have hwr : IntKind.i64.wrap (ov + 1) = ov + 1 := IntWalk.i64_in _ (by omega)
  have CH := Lib.hid (fun W => specCap_any (ov + 1) W)
  have HD : Hid (∀ k, k < l.length → ¬ ((ael l k).win = windowOf t sz ∧ (ael l k).key = y)) := Lib.hid (fun k hk => unlike_iff (unlike_all hok hF hk))
  generalize capS (ov + 1) = Y at CH ⊢
  clear hS hZ hR hE hG hok hF
  generalize windowOf t sz = X at CW CN hL HD
  generalize windowEnd X sz = E at CN hL
  go_enter Try.func10, Try.ntmps10
  go_wp2_with fail
  refine (specCopy_any a _ c mk lt ov l _ _ HN.out rfl (by simp; omega) hlen).mono ?_
  rintro e w1 ⟨a1, c1, rfl, ho, hb⟩
  have s1 := hb.size
  simp only [World.size_alloc] at s1
  have T0 := Lib.hid ((TT.out.a.below hb).alloc (.cells #[.slice a1 l.length c1, .int .i64 mk, .int .i64 lt, .int .i64 ov] 30))
  have T1 := Lib.hid ((TT.out.b.below hb).alloc (.cells #[.slice a1 l.length c1, .int .i64 mk, .int .i64 lt, .int .i64 ov] 30))
  have T2 := Lib.hid ((TT.out.c.below hb).alloc (.cells #[.slice a1 l.length c1, .int .i64 mk, .int .i64 lt, .int .i64 ov] 30))
  have TN := Lib.hid (Blk.new w1 30 #[.slice a1 l.length c1, .int .i64 mk, .int .i64 lt, .int .i64 ov])
  have TO := Lib.hid ((owns_less ho (show w.heap.size ≤ _ by simp; omega)).alloc (.cells #[.slice a1 l.length c1, .int .i64 mk, .int .i64 lt, .int .i64 ov] 30))
  have TB := Lib.hid ((TT.out.bel.trans (hb.mono (by simp; omega))).alloc (by omega) (.cells #[.slice a1 l.length c1, .int .i64 mk, .int .i64 lt, .int .i64 ov] 30))
  have TA := Lib.hid ((HN.out.below (hb.mono (by simp; omega))).below ((Below.refl hi w1).alloc (by omega) (.cells #[.slice a1 l.length c1, .int .i64 mk, .int .i64 lt, .int .i64 ov] 30)))
  clear ho hb
  have q0 := T0.out.cell
  have qf := T1.out.cell
  have qr := T2.out.cell
  have qn := TN.out.cell
  have fr := T2.out.frozen
  have fn := TN.out.frozen
  go_wp2_with fail
  refine (HOK.out _ TA.out (by simp; omega)).mono ?_
  rintro e w2 ⟨rfl, hb⟩
  have T0 := Lib.hid (T0.out.below hb)
  have T1 := Lib.hid (T1.out.below hb)
  have T2 := Lib.hid (T2.out.below hb)
  have TN := Lib.hid (TN.out.below hb)
  have TO := Lib.hid (owns_below TO.out hb)
  have TB := Lib.hid (TB.out.trans (hb.mono TB.out.size))
  have s2 := hb.size
  simp only [World.size_alloc] at s2
  clear hb
  clear q0 qf qr qn fr fn
  have q0 := T0.out.cell
  have qf := T1.out.cell
  have qr := T2.out.cell
  have qn := TN.out.cell
  have fr := T2.out.frozen
  have fn := TN.out.frozen
  go_wp2_with fail
  refine (CZ.out _).mono ?_
  rintro e w' ⟨rfl, rfl⟩
  go_wp2_with fail
  refine (CR.out _).mono ?_
  rintro e w' ⟨rfl, rfl⟩
  go_wp2_with fail
  refine (CE.out _).mono ?_
  rintro e w3 ⟨rfl, hb⟩
  have T0 := Lib.hid (T0.out.below hb)
  have T1 := Lib.hid (T1.out.below hb)
  have T2 := Lib.hid (T2.out.below hb)
  have TN := Lib.hid (TN.out.below hb)
  have TO := Lib.hid (owns_below TO.out hb)
  have TB := Lib.hid (TB.out.trans (hb.mono TB.out.size))
  have s3 := hb.size
  clear hb
  clear q0 qf qr qn fr fn
  have q0 := T0.out.cell
  have qf := T1.out.cell
  have qr := T2.out.cell
  have qn := TN.out.cell
  have fr := T2.out.frozen
  have fn := TN.out.frozen
  go_wp2_with fail
  have d1 : w3.drew.cell? ⟨w.heap.size + 1, 1, none⟩ = some (.int .i64 y) := T1.out.drew.cell 1
  have d2 : w3.drew.cell? ⟨w.heap.size + 1, 2, none⟩ = some (.int .i64 t) := T1.out.drew.cell 2
  have d3 : w3.drew.cell? ⟨w.heap.size + 1, 3, none⟩ = some (.int .i64 v) := T1.out.drew.cell 3
  have z1 : (w3.alloc (.cells #[.int .i64 0, .int .i64 0, .int .i64 0, .int .i64 0, .int .i64 0, .int .i64 0] 44)).drew.cell? ⟨w.heap.size + 1, 1, none⟩ = some (.int .i64 y) := (T1.out.alloc (.cells #[.int .i64 0, .int .i64 0, .int .i64 0, .int .i64 0, .int .i64 0, .int .i64 0] 44)).drew.cell 1
  have z2 : (w3.alloc (.cells #[.int .i64 0, .int .i64 0, .int .i64 0, .int .i64 0, .int .i64 0, .int .i64 0] 44)).drew.cell? ⟨w.heap.size + 1, 2, none⟩ = some (.int .i64 t) := (T1.out.alloc (.cells #[.int .i64 0, .int .i64 0, .int .i64 0, .int .i64 0, .int .i64 0, .int .i64 0] 44)).drew.cell 2
  have z3 : (w3.alloc (.cells #[.int .i64 0, .int .i64 0, .int .i64 0, .int .i64 0, .int .i64 0, .int .i64 0] 44)).drew.cell? ⟨w.heap.size + 1, 3, none⟩ = some (.int .i64 v) := (T1.out.alloc (.cells #[.int .i64 0, .int .i64 0, .int .i64 0, .int .i64 0, .int .i64 0, .int .i64 0] 44)).drew.cell 3
  have y1 : (w3.alloc (.cells #[.int .i64 X, .int .i64 y, .int .i64 1, .int .i64 v, .int .i64 v, .int .i64 v] 44)).drew.cell? ⟨w.heap.size + 1, 1, none⟩ = some (.int .i64 y) := (T1.out.alloc (.cells #[.int .i64 X, .int .i64 y, .int .i64 1, .int .i64 v, .int .i64 v, .int .i64 v] 44)).drew.cell 1
  have y2 : (w3.alloc (.cells #[.int .i64 X, .int .i64 y, .int .i64 1, .int .i64 v, .int .i64 v, .int .i64 v] 44)).drew.cell? ⟨w.heap.size + 1, 2, none⟩ = some (.int .i64 t) := (T1.out.alloc (.cells #[.int .i64 X, .int .i64 y, .int .i64 1, .int .i64 v, .int .i64 v, .int .i64 v] 44)).drew.cell 2
  have y3 : (w3.alloc (.cells #[.int .i64 X, .int .i64 y, .int .i64 1, .int .i64 v, .int .i64 v, .int .i64 v] 44)).drew.cell? ⟨w.heap.size + 1, 3, none⟩ = some (.int .i64 v) := (T1.out.alloc (.cells #[.int .i64 X, .int .i64 y, .int .i64 1, .int .i64 v, .int .i64 v, .int .i64 v] 44)).drew.cell 3
  clear q0 qf qr qn fr fn
  apply meetP
  case f =>
    intro HG4
    go_region_held3 (fun W => W.cell? ⟨w.heap.size + 1, 1, none⟩ = some (.int .i64 y) ∧ W.cell? ⟨w.heap.size + 1, 2, none⟩ = some (.int .i64 t) ∧ W.cell? ⟨w.heap.size + 1, 3, none⟩ = some (.int .i64 v))
      (first | exact ⟨d1, d2, d3⟩ | exact ⟨z1, z2, z3⟩ | exact ⟨y1, y2, y3⟩)
      (first | (go_at_call 40; refine (CW.out _).mono ?_; rintro e w' ⟨rfl, rfl⟩))
    all_goals exact HG4
  clear d1 d2 d3 z1 z2 z3 y1 y2 y3
  have T0 := Lib.hid (T0.out.alloc (.cells #[.int .i64 X, .int .i64 y, .int .i64 1, .int .i64 v, .int .i64 v, .int .i64 v] 44))
  have T1 := Lib.hid (T1.out.alloc (.cells #[.int .i64 X, .int .i64 y, .int .i64 1, .int .i64 v, .int .i64 v, .int .i64 v] 44))
  have T2 := Lib.hid (T2.out.alloc (.cells #[.int .i64 X, .int .i64 y, .int .i64 1, .int .i64 v, .int .i64 v, .int .i64 v] 44))
  have TN := Lib.hid (TN.out.alloc (.cells #[.int .i64 X, .int .i64 y, .int .i64 1, .int .i64 v, .int .i64 v, .int .i64 v] 44))
  have TO := Lib.hid (TO.out.alloc (.cells #[.int .i64 X, .int .i64 y, .int .i64 1, .int .i64 v, .int .i64 v, .int .i64 v] 44))
  have TB := Lib.hid (TB.out.alloc TB.out.size (.cells #[.int .i64 X, .int .i64 y, .int .i64 1, .int .i64 v, .int .i64 v, .int .i64 v] 44))
  have TG := Lib.hid (Blk.new w3 44 #[.int .i64 X, .int .i64 y, .int .i64 1, .int .i64 v, .int .i64 v, .int .i64 v])
  have T0 := Lib.hid (T0.out.drew)
  have T1 := Lib.hid (T1.out.drew)
  have T2 := Lib.hid (T2.out.drew)
  have TN := Lib.hid (TN.out.drew)
  have TG := Lib.hid (TG.out.drew)
  have TO := Lib.hid (TO.out.drew)
  have TB := Lib.hid (TB.out.drew)
  have s4 : (w3.alloc (.cells #[.int .i64 X, .int .i64 y, .int .i64 1, .int .i64 v, .int .i64 v, .int .i64 v] 44)).drew.heap.size = w3.heap.size + 1 := by simp
  generalize (w3.alloc (.cells #[.int .i64 X, .int .i64 y, .int .i64 1, .int .i64 v, .int .i64 v, .int .i64 v] 44)).drew = w5 at T0 T1 T2 TN TG TO TB s4 ⊢
  have q0 := T0.out.cell
  have qf := T1.out.cell
  have qr := T2.out.cell
  have qn := TN.out.cell
  have qg := TG.out.cell
  have fr := T2.out.frozen
  have fn := TN.out.frozen
  go_wp2_with fail
  go_still_tail 6, (by kernel_rfl)
  still_call (CN.out _)
  repeat still_step
  refine wpStill_nil ?_
  change wpList _ _ _ _ _ w5.drew
  have T0 := Lib.hid (T0.out.drew)
  have T1 := Lib.hid (T1.out.drew)
  have T2 := Lib.hid (T2.out.drew)
  have TN := Lib.hid (TN.out.drew)
  have TG := Lib.hid (TG.out.drew)
  have TO := Lib.hid (TO.out.drew)
  have TB := Lib.hid (TB.out.drew)
  have s6 : w5.drew.heap.size = w5.heap.size := by simp
  generalize w5.drew = w6 at T0 T1 T2 TN TG TO TB s6 ⊢
  clear q0 qf qr qn qg fr fn
  have q0 := T0.out.cell
  have qf := T1.out.cell
  have qr := T2.out.cell
  have qn := TN.out.cell
  have qg := TG.out.cell
  have fr := T2.out.frozen
  have fn := TN.out.frozen
  go_wp2
  go_loopw [12] (fun i wr => ∃ k : Nat, k ≤ l.length ∧ i = .int .i64 k ∧ Below w6.heap.size w6 wr) (fun i _ => l.length - (intOf i).toNat)
  case atStart => exact ⟨0, Nat.zero_le _, rfl, Below.refl _ _⟩
  case round =>
    obtain ⟨k, hk, rfl, hb⟩ := hrel
    have T0 := Lib.hid (T0.out.below hb)
    have T1 := Lib.hid (T1.out.below hb)
    have T2 := Lib.hid (T2.out.below hb)
    have TN := Lib.hid (TN.out.below hb)
    have TG := Lib.hid (TG.out.below hb)
    have TO := Lib.hid (owns_below TO.out hb)
    have TB := Lib.hid (TB.out.trans (hb.mono TB.out.size))
    have sr := hb.size
    have HB := Lib.hid hb
    clear hb
    have HA := Lib.hid (HR0.out.below (TB.out.mono hB))
    clear q0 qf qr qn qg fr fn
    have q0 := T0.out.cell
    have qf := T1.out.cell
    have qr := T2.out.cell
    have qn := TN.out.cell
    have qg := TG.out.cell
    have fr := T2.out.frozen
    have fn := TN.out.frozen
    by_cases hlt : k < l.length
    · have hlt2 : k < l.length := by omega
      have hlt' : (k : Int) < (l.length : Int) := by omega
      have hnn : 0 ≤ (k : Int) := by omega
      obtain ⟨b1, off, ha, hbh, hcell⟩ := Ags.six HA.out (by omega)
      rw [ha] at q0
      clear ha
      obtain ⟨p0, p1, p2, p3, p4, p5⟩ := hcell k hlt2
      have HU := HD.out k hlt
      clear hcell p2 p3 p4 p5
      generalize ael l k = S at p0 p1 HU
      obtain ⟨u0, u1, u2, u3, u4, u5⟩ := S
      simp only at p0 p1 HU
      by_cases h0 : u0 = X
      · subst h0
        have h1 : ¬ u1 = y := fun h => HU ⟨rfl, h⟩
        have hd1 : decide (u1 = y) = false := by simp [h1]
        clear HU
        go_wp2_with fail
        go_quiet (fail)
        go_wp2
        go_roundw
        case rel => exact ⟨k + 1, by omega, by go_num, below_drewN HB.out _⟩
        case measure => simp [intOf]; omega
      · have hd0 : decide (u0 = X) = false := by simp [h0]
        clear HU
        go_wp2_with fail
        go_quiet (fail)
        go_wp2
        go_roundw
        case rel => exact ⟨k + 1, by omega, by go_num, below_drewN HB.out _⟩
        case measure => simp [intOf]; omega
    · obtain rfl : k = l.length := by omega
      have HP : Hid (FreshShardI ⟨l, lt, Y, 2⟩ mk w (.returned (.tuple #[.agg #[.slice a1 l.length c1, .int .i64 mk, .int .i64 lt, .int .i64 Y], .int .i64 2])) (((((wr.setCell ⟨w1.heap.size, 3, none⟩ (.int .i64 Y)).setCell ⟨w.heap.size + 1 + 1, 0, none⟩ (.slice a1 l.length c1)).setCell ⟨w.heap.size + 1 + 1, 1, none⟩ (.int .i64 mk)).setCell ⟨w.heap.size + 1 + 1, 2, none⟩ (.int .i64 lt)).setCell ⟨w.heap.size + 1 + 1, 3, none⟩ (.int .i64 Y))) :=
        ⟨a1, c1, rfl, row_keep4 (row_keep TO.out TN.out 3 _).1 (T2.out.far_ (p := ⟨w1.heap.size, 3, none⟩) (show w.heap.size + 1 + 1 ≠ w1.heap.size by omega) _) _ _ _ _, below_set4 (TB.out.setCell (p := ⟨w1.heap.size, 3, none⟩) (show w.heap.size ≤ w1.heap.size by omega) _) (by omega) _ _ _ _⟩
      go_wp2_with fail
      refine (CH.out _).mono ?_
      rintro e w' ⟨rfl, rfl⟩
      go_wp2
      exact bodyPost_ret (v := .tuple #[.agg #[.slice a1 l.length c1, .int .i64 mk, .int .i64 lt, .int .i64 Y], .int .i64 2]) (by simp [results, Try.results10, go_sem, qr]) rfl HP.out
end Go.Proofs.Ytnnpppdgkbmieaa
