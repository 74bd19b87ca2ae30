/- The contract of spec.AddEvent: a late event. (made by tools/mkadds2.py) -/
import Derived.Test.YtnnpppdgkbmieaaAddSpec1
namespace Go.Proofs.Ytnnpppdgkbmieaa
open Go.RowKit
theorem meetP {G H : Prop} (f : G → H) (g : G) : H := f g
theorem addGood_inv {l : List Ag} {mk lt ov sz rm k y t v : Int} (h : addGood l mk lt ov sz rm k y t v = true) : sokB l mk lt ov = true ∧ inB sz 1 1000000 = true ∧ inB rm 1 40 = true ∧ k = 1 ∧ fOk k y t v = true := by
  unfold addGood isEv at h
  simpa only [Bool.and_eq_true, decide_eq_true_eq] using h

set_option maxHeartbeats 8000000 in
set_option maxRecDepth 100000 in
theorem specAdd_late (a : Option Addr) (n c : Nat) (mk lt ov sz rm k y t v : Int) (l : List Ag) (hi : Nat) (w : World) (hr : Ags w hi a c l) (hn : n = l.length) (hB : hi ≤ w.heap.size) (hlen : l.length ≤ 1048576) (hG : addGood l mk lt ov sz rm k y t v = true) (hL : windowEnd (windowOf t sz) sz ≤ mk) :
    Calls Try.prog 10 #[.agg #[.slice a n c, .int .i64 mk, .int .i64 lt, .int .i64 ov], .int .i64 sz, .int .i64 rm, (.agg #[.int .i64 k, .int .i64 y, .int .i64 t, .int .i64 v])] w (FreshShardI (addR l mk lt ov sz rm k y t v) mk w) := by
  subst hn
  have hc1 := hr.cap
  have hc2 := hr.big
  have tt := three_new w 30 34 30 #[.slice a l.length c, .int .i64 mk, .int .i64 lt, .int .i64 ov] #[.int .i64 k, .int .i64 y, .int .i64 t, .int .i64 v] #[.slice none 0 0, .int .i64 0, .int .i64 0, .int .i64 0]
  have HN := Lib.hid (hr.below (tt.bel.mono hB))
  have TT := Lib.hid tt
  have HOK := Lib.hid (fun (W : World) (h : Ags W hi a c l) (h2 : hi ≤ W.heap.size) => specShardOk_any a l.length c mk lt ov l hi W h rfl h2)
  clear hr tt
  obtain ⟨hS, hZ, hR, rfl, hE⟩ := addGood_inv hG
  rw [hS] at HOK
  have CZ := Lib.hid (fun W => specIn_any sz (1) (1000000) W)
  rw [hZ] at CZ
  have CR := Lib.hid (fun W => specIn_any rm (1) (40) W)
  rw [hR] at CR
  have CE := Lib.hid (fun W => specFrameOk_any 1 y t v W)
  rw [hE] at CE
  have CW := Lib.hid (fun W => winOfS_q t sz W)
  have CN := Lib.hid (fun W => winEndS_q (windowOf t sz) sz W)
  have hltb := inB_bd (sok_bd hS).2.2.1
  rw [addR_late hG hL]
  have hwr : IntKind.i64.wrap (lt + 1) = lt + 1 := IntWalk.i64_in _ (by omega)
  have CH := Lib.hid (fun W => specCap_any (lt + 1) W)
  generalize capS (lt + 1) = Y at CH ⊢
  clear hS hZ hR hE hG
  generalize windowOf t sz = X at CW CN hL
  generalize windowEnd X sz = E at CN hL
  go_enter Try.func10, Try.ntmps10
  go_wp2_with fail
  refine (specCopy_any a _ c mk lt ov l _ _ HN.out rfl (by simp; omega) hlen).mono ?_
  rintro e w1 ⟨a1, c1, rfl, ho, hb⟩
  have s1 := hb.size
  simp only [World.size_alloc] at s1
  have T0 := Lib.hid ((TT.out.a.below hb).alloc (.cells #[.slice a1 l.length c1, .int .i64 mk, .int .i64 lt, .int .i64 ov] 30))
  have T1 := Lib.hid ((TT.out.b.below hb).alloc (.cells #[.slice a1 l.length c1, .int .i64 mk, .int .i64 lt, .int .i64 ov] 30))
  have T2 := Lib.hid ((TT.out.c.below hb).alloc (.cells #[.slice a1 l.length c1, .int .i64 mk, .int .i64 lt, .int .i64 ov] 30))
  have TN := Lib.hid (Blk.new w1 30 #[.slice a1 l.length c1, .int .i64 mk, .int .i64 lt, .int .i64 ov])
  have TO := Lib.hid ((owns_less ho (show w.heap.size ≤ _ by simp; omega)).alloc (.cells #[.slice a1 l.length c1, .int .i64 mk, .int .i64 lt, .int .i64 ov] 30))
  have TB := Lib.hid ((TT.out.bel.trans (hb.mono (by simp; omega))).alloc (by omega) (.cells #[.slice a1 l.length c1, .int .i64 mk, .int .i64 lt, .int .i64 ov] 30))
  have TA := Lib.hid ((HN.out.below (hb.mono (by simp; omega))).below ((Below.refl hi w1).alloc (by omega) (.cells #[.slice a1 l.length c1, .int .i64 mk, .int .i64 lt, .int .i64 ov] 30)))
  clear ho hb
  have q0 := T0.out.cell
  have qf := T1.out.cell
  have qr := T2.out.cell
  have qn := TN.out.cell
  have fr := T2.out.frozen
  have fn := TN.out.frozen
  go_wp2_with fail
  refine (HOK.out _ TA.out (by simp; omega)).mono ?_
  rintro e w2 ⟨rfl, hb⟩
  have T0 := Lib.hid (T0.out.below hb)
  have T1 := Lib.hid (T1.out.below hb)
  have T2 := Lib.hid (T2.out.below hb)
  have TN := Lib.hid (TN.out.below hb)
  have TO := Lib.hid (owns_below TO.out hb)
  have TB := Lib.hid (TB.out.trans (hb.mono TB.out.size))
  have s2 := hb.size
  simp only [World.size_alloc] at s2
  clear hb
  clear q0 qf qr qn fr fn
  have q0 := T0.out.cell
  have qf := T1.out.cell
  have qr := T2.out.cell
  have qn := TN.out.cell
  have fr := T2.out.frozen
  have fn := TN.out.frozen
  go_wp2_with fail
  refine (CZ.out _).mono ?_
  rintro e w' ⟨rfl, rfl⟩
  go_wp2_with fail
  refine (CR.out _).mono ?_
  rintro e w' ⟨rfl, rfl⟩
  go_wp2_with fail
  refine (CE.out _).mono ?_
  rintro e w3 ⟨rfl, hb⟩
  have T0 := Lib.hid (T0.out.below hb)
  have T1 := Lib.hid (T1.out.below hb)
  have T2 := Lib.hid (T2.out.below hb)
  have TN := Lib.hid (TN.out.below hb)
  have TO := Lib.hid (owns_below TO.out hb)
  have TB := Lib.hid (TB.out.trans (hb.mono TB.out.size))
  have s3 := hb.size
  clear hb
  clear q0 qf qr qn fr fn
  have q0 := T0.out.cell
  have qf := T1.out.cell
  have qr := T2.out.cell
  have qn := TN.out.cell
  have fr := T2.out.frozen
  have fn := TN.out.frozen
  go_wp2_with fail
  have d1 : w3.drew.cell? ⟨w.heap.size + 1, 1, none⟩ = some (.int .i64 y) := T1.out.drew.cell 1
  have d2 : w3.drew.cell? ⟨w.heap.size + 1, 2, none⟩ = some (.int .i64 t) := T1.out.drew.cell 2
  have d3 : w3.drew.cell? ⟨w.heap.size + 1, 3, none⟩ = some (.int .i64 v) := T1.out.drew.cell 3
  have z1 : (w3.alloc (.cells #[.int .i64 0, .int .i64 0, .int .i64 0, .int .i64 0, .int .i64 0, .int .i64 0] 44)).drew.cell? ⟨w.heap.size + 1, 1, none⟩ = some (.int .i64 y) := (T1.out.alloc (.cells #[.int .i64 0, .int .i64 0, .int .i64 0, .int .i64 0, .int .i64 0, .int .i64 0] 44)).drew.cell 1
  have z2 : (w3.alloc (.cells #[.int .i64 0, .int .i64 0, .int .i64 0, .int .i64 0, .int .i64 0, .int .i64 0] 44)).drew.cell? ⟨w.heap.size + 1, 2, none⟩ = some (.int .i64 t) := (T1.out.alloc (.cells #[.int .i64 0, .int .i64 0, .int .i64 0, .int .i64 0, .int .i64 0, .int .i64 0] 44)).drew.cell 2
  have z3 : (w3.alloc (.cells #[.int .i64 0, .int .i64 0, .int .i64 0, .int .i64 0, .int .i64 0, .int .i64 0] 44)).drew.cell? ⟨w.heap.size + 1, 3, none⟩ = some (.int .i64 v) := (T1.out.alloc (.cells #[.int .i64 0, .int .i64 0, .int .i64 0, .int .i64 0, .int .i64 0, .int .i64 0] 44)).drew.cell 3
  have y1 : (w3.alloc (.cells #[.int .i64 X, .int .i64 y, .int .i64 1, .int .i64 v, .int .i64 v, .int .i64 v] 44)).drew.cell? ⟨w.heap.size + 1, 1, none⟩ = some (.int .i64 y) := (T1.out.alloc (.cells #[.int .i64 X, .int .i64 y, .int .i64 1, .int .i64 v, .int .i64 v, .int .i64 v] 44)).drew.cell 1
  have y2 : (w3.alloc (.cells #[.int .i64 X, .int .i64 y, .int .i64 1, .int .i64 v, .int .i64 v, .int .i64 v] 44)).drew.cell? ⟨w.heap.size + 1, 2, none⟩ = some (.int .i64 t) := (T1.out.alloc (.cells #[.int .i64 X, .int .i64 y, .int .i64 1, .int .i64 v, .int .i64 v, .int .i64 v] 44)).drew.cell 2
  have y3 : (w3.alloc (.cells #[.int .i64 X, .int .i64 y, .int .i64 1, .int .i64 v, .int .i64 v, .int .i64 v] 44)).drew.cell? ⟨w.heap.size + 1, 3, none⟩ = some (.int .i64 v) := (T1.out.alloc (.cells #[.int .i64 X, .int .i64 y, .int .i64 1, .int .i64 v, .int .i64 v, .int .i64 v] 44)).drew.cell 3
  clear q0 qf qr qn fr fn
  apply meetP
  case f =>
    intro HG4
    go_region_held3 (fun W => W.cell? ⟨w.heap.size + 1, 1, none⟩ = some (.int .i64 y) ∧ W.cell? ⟨w.heap.size + 1, 2, none⟩ = some (.int .i64 t) ∧ W.cell? ⟨w.heap.size + 1, 3, none⟩ = some (.int .i64 v))
      (first | exact ⟨d1, d2, d3⟩ | exact ⟨z1, z2, z3⟩ | exact ⟨y1, y2, y3⟩)
      (first | (go_at_call 40; refine (CW.out _).mono ?_; rintro e w' ⟨rfl, rfl⟩))
    all_goals exact HG4
  clear d1 d2 d3 z1 z2 z3 y1 y2 y3
  have T0 := Lib.hid (T0.out.alloc (.cells #[.int .i64 X, .int .i64 y, .int .i64 1, .int .i64 v, .int .i64 v, .int .i64 v] 44))
  have T1 := Lib.hid (T1.out.alloc (.cells #[.int .i64 X, .int .i64 y, .int .i64 1, .int .i64 v, .int .i64 v, .int .i64 v] 44))
  have T2 := Lib.hid (T2.out.alloc (.cells #[.int .i64 X, .int .i64 y, .int .i64 1, .int .i64 v, .int .i64 v, .int .i64 v] 44))
  have TN := Lib.hid (TN.out.alloc (.cells #[.int .i64 X, .int .i64 y, .int .i64 1, .int .i64 v, .int .i64 v, .int .i64 v] 44))
  have TO := Lib.hid (TO.out.alloc (.cells #[.int .i64 X, .int .i64 y, .int .i64 1, .int .i64 v, .int .i64 v, .int .i64 v] 44))
  have TB := Lib.hid (TB.out.alloc TB.out.size (.cells #[.int .i64 X, .int .i64 y, .int .i64 1, .int .i64 v, .int .i64 v, .int .i64 v] 44))
  have TG := Lib.hid (Blk.new w3 44 #[.int .i64 X, .int .i64 y, .int .i64 1, .int .i64 v, .int .i64 v, .int .i64 v])
  have T0 := Lib.hid (T0.out.drew)
  have T1 := Lib.hid (T1.out.drew)
  have T2 := Lib.hid (T2.out.drew)
  have TN := Lib.hid (TN.out.drew)
  have TG := Lib.hid (TG.out.drew)
  have TO := Lib.hid (TO.out.drew)
  have TB := Lib.hid (TB.out.drew)
  have s4 : (w3.alloc (.cells #[.int .i64 X, .int .i64 y, .int .i64 1, .int .i64 v, .int .i64 v, .int .i64 v] 44)).drew.heap.size = w3.heap.size + 1 := by simp
  generalize (w3.alloc (.cells #[.int .i64 X, .int .i64 y, .int .i64 1, .int .i64 v, .int .i64 v, .int .i64 v] 44)).drew = w5 at T0 T1 T2 TN TG TO TB s4 ⊢
  have q0 := T0.out.cell
  have qf := T1.out.cell
  have qr := T2.out.cell
  have qn := TN.out.cell
  have qg := TG.out.cell
  have fr := T2.out.frozen
  have fn := TN.out.frozen
  go_wp2_with fail
  go_still_tail 6, (by kernel_rfl)
  still_call (CN.out _)
  repeat still_step
  refine wpStill_nil ?_
  change wpList _ _ _ _ _ w5.drew
  have T0 := Lib.hid (T0.out.drew)
  have T1 := Lib.hid (T1.out.drew)
  have T2 := Lib.hid (T2.out.drew)
  have TN := Lib.hid (TN.out.drew)
  have TG := Lib.hid (TG.out.drew)
  have TO := Lib.hid (TO.out.drew)
  have TB := Lib.hid (TB.out.drew)
  have s6 : w5.drew.heap.size = w5.heap.size := by simp
  generalize w5.drew = w6 at T0 T1 T2 TN TG TO TB s6 ⊢
  clear q0 qf qr qn qg fr fn
  have q0 := T0.out.cell
  have qf := T1.out.cell
  have qr := T2.out.cell
  have qn := TN.out.cell
  have qg := TG.out.cell
  have fr := T2.out.frozen
  have fn := TN.out.frozen
  have HP : Hid (FreshShardI ⟨l, Y, ov, 1⟩ mk w (.returned (.tuple #[.agg #[.slice a1 l.length c1, .int .i64 mk, .int .i64 Y, .int .i64 ov], .int .i64 1])) (((((w6.setCell ⟨w1.heap.size, 2, none⟩ (.int .i64 Y)).setCell ⟨w.heap.size + 1 + 1, 0, none⟩ (.slice a1 l.length c1)).setCell ⟨w.heap.size + 1 + 1, 1, none⟩ (.int .i64 mk)).setCell ⟨w.heap.size + 1 + 1, 2, none⟩ (.int .i64 Y)).setCell ⟨w.heap.size + 1 + 1, 3, none⟩ (.int .i64 ov))) :=
    ⟨a1, c1, rfl, row_keep4 (row_keep TO.out TN.out 2 _).1 (T2.out.far_ (p := ⟨w1.heap.size, 2, none⟩) (show w.heap.size + 1 + 1 ≠ w1.heap.size by omega) _) _ _ _ _, below_set4 (TB.out.setCell (p := ⟨w1.heap.size, 2, none⟩) (show w.heap.size ≤ w1.heap.size by omega) _) (by omega) _ _ _ _⟩
  go_wp2_with fail
  refine (CH.out _).mono ?_
  rintro e w' ⟨rfl, rfl⟩
  go_wp2
  exact bodyPost_ret (v := .tuple #[.agg #[.slice a1 l.length c1, .int .i64 mk, .int .i64 Y, .int .i64 ov], .int .i64 1]) (by simp [results, Try.results10, go_sem, qr]) rfl HP.out
end Go.Proofs.Ytnnpppdgkbmieaa
