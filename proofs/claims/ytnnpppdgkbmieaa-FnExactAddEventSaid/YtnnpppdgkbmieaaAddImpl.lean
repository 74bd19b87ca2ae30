/- The contract of impl.AddEvent. (made by tools/mkadd.py) -/
import Derived.Test.YtnnpppdgkbmieaaPlainAdd
namespace Go.Proofs.Ytnnpppdgkbmieaa
open Go.RowKit

set_option maxHeartbeats 8000000 in
set_option maxRecDepth 100000 in
theorem implAdd_any (a : Option Addr) (n c : Nat) (mk lt ov sz rm k y t v : Int) (l : List Ag) (hi : Nat) (w : World) (hr : Ags w hi a c l) (hn : n = l.length) (hB : hi ≤ w.heap.size) (hlen : l.length ≤ 1048576) :
    Calls Try.prog 13 #[.agg #[.slice a n c, .int .i64 mk, .int .i64 lt, .int .i64 ov], .int .i64 sz, .int .i64 rm, (.agg #[.int .i64 k, .int .i64 y, .int .i64 t, .int .i64 v])] w (FreshShardI (addR l mk lt ov sz rm k y t v) mk w) := by
  subst hn
  have hc1 := hr.cap
  have hc2 := hr.big
  have tt := three_new w 30 34 30 #[.slice a l.length c, .int .i64 mk, .int .i64 lt, .int .i64 ov] #[.int .i64 k, .int .i64 y, .int .i64 t, .int .i64 v] #[.slice none 0 0, .int .i64 0, .int .i64 0, .int .i64 0]
  have HN := Lib.hid (hr.below (tt.bel.mono hB))
  have TT := Lib.hid tt
  have HOK := Lib.hid (fun (W : World) (h : Ags W hi a c l) (h2 : hi ≤ W.heap.size) => implShardOk_any a l.length c mk lt ov l hi W h rfl h2)
  clear hr tt
  cases hS : sokB l mk lt ov with
  | false =>
    rw [addR_no1 hS]
    rw [hS] at HOK
    clear hS
    go_enter Try.func13, Try.ntmps13
    go_wp2_with fail
    refine (copied_any a _ c mk lt ov l _ _ HN.out rfl (by simp; omega) hlen).mono ?_
    rintro e w1 ⟨a1, c1, rfl, ho, hb⟩
    have s1 := hb.size
    simp only [World.size_alloc] at s1
    have T0 := Lib.hid ((TT.out.a.below hb).alloc (.cells #[.slice a1 l.length c1, .int .i64 mk, .int .i64 lt, .int .i64 ov] 30))
    have T1 := Lib.hid ((TT.out.b.below hb).alloc (.cells #[.slice a1 l.length c1, .int .i64 mk, .int .i64 lt, .int .i64 ov] 30))
    have T2 := Lib.hid ((TT.out.c.below hb).alloc (.cells #[.slice a1 l.length c1, .int .i64 mk, .int .i64 lt, .int .i64 ov] 30))
    have TN := Lib.hid (Blk.new w1 30 #[.slice a1 l.length c1, .int .i64 mk, .int .i64 lt, .int .i64 ov])
    have TO := Lib.hid ((owns_less ho (show w.heap.size ≤ _ by simp; omega)).alloc (.cells #[.slice a1 l.length c1, .int .i64 mk, .int .i64 lt, .int .i64 ov] 30))
    have TB := Lib.hid ((TT.out.bel.trans (hb.mono (by simp; omega))).alloc (by omega) (.cells #[.slice a1 l.length c1, .int .i64 mk, .int .i64 lt, .int .i64 ov] 30))
    have TA := Lib.hid ((HN.out.below (hb.mono (by simp; omega))).below ((Below.refl hi w1).alloc (by omega) (.cells #[.slice a1 l.length c1, .int .i64 mk, .int .i64 lt, .int .i64 ov] 30)))
    clear ho hb
    have q0 := T0.out.cell
    have qf := T1.out.cell
    have qr := T2.out.cell
    have qn := TN.out.cell
    have fr := T2.out.frozen
    have fn := TN.out.frozen
    go_wp2_with fail
    refine (HOK.out _ TA.out (by simp; omega)).mono ?_
    rintro e w2 ⟨rfl, hb⟩
    have T0 := Lib.hid (T0.out.below hb)
    have T1 := Lib.hid (T1.out.below hb)
    have T2 := Lib.hid (T2.out.below hb)
    have TN := Lib.hid (TN.out.below hb)
    have TO := Lib.hid (owns_below TO.out hb)
    have TB := Lib.hid (TB.out.trans (hb.mono TB.out.size))
    have s2 := hb.size
    simp only [World.size_alloc] at s2
    clear hb
    clear q0 qf qr qn fr fn
    have q0 := T0.out.cell
    have qf := T1.out.cell
    have qr := T2.out.cell
    have qn := TN.out.cell
    have fr := T2.out.frozen
    have fn := TN.out.frozen
    have HP : Hid (FreshShardI ⟨l, lt, ov, 3⟩ mk w (.returned (.tuple #[.agg #[.slice a1 l.length c1, .int .i64 mk, .int .i64 lt, .int .i64 ov], .int .i64 3])) ((((w2.setCell ⟨w.heap.size + 1 + 1, 0, none⟩ (.slice a1 l.length c1)).setCell ⟨w.heap.size + 1 + 1, 1, none⟩ (.int .i64 mk)).setCell ⟨w.heap.size + 1 + 1, 2, none⟩ (.int .i64 lt)).setCell ⟨w.heap.size + 1 + 1, 3, none⟩ (.int .i64 ov))) :=
      ⟨a1, c1, rfl, row_keep4 TO.out T2.out _ _ _ _, below_set4 TB.out (by omega) _ _ _ _⟩
    go_wp2
    exact bodyPost_ret (v := .tuple #[.agg #[.slice a1 l.length c1, .int .i64 mk, .int .i64 lt, .int .i64 ov], .int .i64 3]) (by simp [results, Try.results13, go_sem, qr]) rfl HP.out
  | true =>
    rw [hS] at HOK
    cases hZ : inB sz 1 1000000 with
    | false =>
      rw [addR_no2 hZ]
      have CZ := Lib.hid (fun W => iSize_any sz W)
      rw [hZ] at CZ
      clear hS hZ
      go_enter Try.func13, Try.ntmps13
      go_wp2_with fail
      refine (copied_any a _ c mk lt ov l _ _ HN.out rfl (by simp; omega) hlen).mono ?_
      rintro e w1 ⟨a1, c1, rfl, ho, hb⟩
      have s1 := hb.size
      simp only [World.size_alloc] at s1
      have T0 := Lib.hid ((TT.out.a.below hb).alloc (.cells #[.slice a1 l.length c1, .int .i64 mk, .int .i64 lt, .int .i64 ov] 30))
      have T1 := Lib.hid ((TT.out.b.below hb).alloc (.cells #[.slice a1 l.length c1, .int .i64 mk, .int .i64 lt, .int .i64 ov] 30))
      have T2 := Lib.hid ((TT.out.c.below hb).alloc (.cells #[.slice a1 l.length c1, .int .i64 mk, .int .i64 lt, .int .i64 ov] 30))
      have TN := Lib.hid (Blk.new w1 30 #[.slice a1 l.length c1, .int .i64 mk, .int .i64 lt, .int .i64 ov])
      have TO := Lib.hid ((owns_less ho (show w.heap.size ≤ _ by simp; omega)).alloc (.cells #[.slice a1 l.length c1, .int .i64 mk, .int .i64 lt, .int .i64 ov] 30))
      have TB := Lib.hid ((TT.out.bel.trans (hb.mono (by simp; omega))).alloc (by omega) (.cells #[.slice a1 l.length c1, .int .i64 mk, .int .i64 lt, .int .i64 ov] 30))
      have TA := Lib.hid ((HN.out.below (hb.mono (by simp; omega))).below ((Below.refl hi w1).alloc (by omega) (.cells #[.slice a1 l.length c1, .int .i64 mk, .int .i64 lt, .int .i64 ov] 30)))
      clear ho hb
      have q0 := T0.out.cell
      have qf := T1.out.cell
      have qr := T2.out.cell
      have qn := TN.out.cell
      have fr := T2.out.frozen
      have fn := TN.out.frozen
      go_wp2_with fail
      refine (HOK.out _ TA.out (by simp; omega)).mono ?_
      rintro e w2 ⟨rfl, hb⟩
      have T0 := Lib.hid (T0.out.below hb)
      have T1 := Lib.hid (T1.out.below hb)
      have T2 := Lib.hid (T2.out.below hb)
      have TN := Lib.hid (TN.out.below hb)
      have TO := Lib.hid (owns_below TO.out hb)
      have TB := Lib.hid (TB.out.trans (hb.mono TB.out.size))
      have s2 := hb.size
      simp only [World.size_alloc] at s2
      clear hb
      clear q0 qf qr qn fr fn
      have q0 := T0.out.cell
      have qf := T1.out.cell
      have qr := T2.out.cell
      have qn := TN.out.cell
      have fr := T2.out.frozen
      have fn := TN.out.frozen
      have HP : Hid (FreshShardI ⟨l, lt, ov, 3⟩ mk w (.returned (.tuple #[.agg #[.slice a1 l.length c1, .int .i64 mk, .int .i64 lt, .int .i64 ov], .int .i64 3])) ((((w2.setCell ⟨w.heap.size + 1 + 1, 0, none⟩ (.slice a1 l.length c1)).setCell ⟨w.heap.size + 1 + 1, 1, none⟩ (.int .i64 mk)).setCell ⟨w.heap.size + 1 + 1, 2, none⟩ (.int .i64 lt)).setCell ⟨w.heap.size + 1 + 1, 3, none⟩ (.int .i64 ov))) :=
        ⟨a1, c1, rfl, row_keep4 TO.out T2.out _ _ _ _, below_set4 TB.out (by omega) _ _ _ _⟩
      go_wp2_with fail
      refine (CZ.out _).mono ?_
      rintro e w' ⟨rfl, rfl⟩
      go_wp2
      exact bodyPost_ret (v := .tuple #[.agg #[.slice a1 l.length c1, .int .i64 mk, .int .i64 lt, .int .i64 ov], .int .i64 3]) (by simp [results, Try.results13, go_sem, qr]) rfl HP.out
    | true =>
      have CZ := Lib.hid (fun W => iSize_any sz W)
      rw [hZ] at CZ
      cases hR : inB rm 1 40 with
      | false =>
        rw [addR_no3 hR]
        have CR := Lib.hid (fun W => iw_any rm 1 40 W)
        rw [hR] at CR
        clear hS hZ hR
        go_enter Try.func13, Try.ntmps13
        go_wp2_with fail
        refine (copied_any a _ c mk lt ov l _ _ HN.out rfl (by simp; omega) hlen).mono ?_
        rintro e w1 ⟨a1, c1, rfl, ho, hb⟩
        have s1 := hb.size
        simp only [World.size_alloc] at s1
        have T0 := Lib.hid ((TT.out.a.below hb).alloc (.cells #[.slice a1 l.length c1, .int .i64 mk, .int .i64 lt, .int .i64 ov] 30))
        have T1 := Lib.hid ((TT.out.b.below hb).alloc (.cells #[.slice a1 l.length c1, .int .i64 mk, .int .i64 lt, .int .i64 ov] 30))
        have T2 := Lib.hid ((TT.out.c.below hb).alloc (.cells #[.slice a1 l.length c1, .int .i64 mk, .int .i64 lt, .int .i64 ov] 30))
        have TN := Lib.hid (Blk.new w1 30 #[.slice a1 l.length c1, .int .i64 mk, .int .i64 lt, .int .i64 ov])
        have TO := Lib.hid ((owns_less ho (show w.heap.size ≤ _ by simp; omega)).alloc (.cells #[.slice a1 l.length c1, .int .i64 mk, .int .i64 lt, .int .i64 ov] 30))
        have TB := Lib.hid ((TT.out.bel.trans (hb.mono (by simp; omega))).alloc (by omega) (.cells #[.slice a1 l.length c1, .int .i64 mk, .int .i64 lt, .int .i64 ov] 30))
        have TA := Lib.hid ((HN.out.below (hb.mono (by simp; omega))).below ((Below.refl hi w1).alloc (by omega) (.cells #[.slice a1 l.length c1, .int .i64 mk, .int .i64 lt, .int .i64 ov] 30)))
        clear ho hb
        have q0 := T0.out.cell
        have qf := T1.out.cell
        have qr := T2.out.cell
        have qn := TN.out.cell
        have fr := T2.out.frozen
        have fn := TN.out.frozen
        go_wp2_with fail
        refine (HOK.out _ TA.out (by simp; omega)).mono ?_
        rintro e w2 ⟨rfl, hb⟩
        have T0 := Lib.hid (T0.out.below hb)
        have T1 := Lib.hid (T1.out.below hb)
        have T2 := Lib.hid (T2.out.below hb)
        have TN := Lib.hid (TN.out.below hb)
        have TO := Lib.hid (owns_below TO.out hb)
        have TB := Lib.hid (TB.out.trans (hb.mono TB.out.size))
        have s2 := hb.size
        simp only [World.size_alloc] at s2
        clear hb
        clear q0 qf qr qn fr fn
        have q0 := T0.out.cell
        have qf := T1.out.cell
        have qr := T2.out.cell
        have qn := TN.out.cell
        have fr := T2.out.frozen
        have fn := TN.out.frozen
        have HP : Hid (FreshShardI ⟨l, lt, ov, 3⟩ mk w (.returned (.tuple #[.agg #[.slice a1 l.length c1, .int .i64 mk, .int .i64 lt, .int .i64 ov], .int .i64 3])) ((((w2.setCell ⟨w.heap.size + 1 + 1, 0, none⟩ (.slice a1 l.length c1)).setCell ⟨w.heap.size + 1 + 1, 1, none⟩ (.int .i64 mk)).setCell ⟨w.heap.size + 1 + 1, 2, none⟩ (.int .i64 lt)).setCell ⟨w.heap.size + 1 + 1, 3, none⟩ (.int .i64 ov))) :=
          ⟨a1, c1, rfl, row_keep4 TO.out T2.out _ _ _ _, below_set4 TB.out (by omega) _ _ _ _⟩
        go_wp2_with fail
        refine (CZ.out _).mono ?_
        rintro e w' ⟨rfl, rfl⟩
        go_wp2_with fail
        refine (CR.out _).mono ?_
        rintro e w' ⟨rfl, rfl⟩
        go_wp2
        exact bodyPost_ret (v := .tuple #[.agg #[.slice a1 l.length c1, .int .i64 mk, .int .i64 lt, .int .i64 ov], .int .i64 3]) (by simp [results, Try.results13, go_sem, qr]) rfl HP.out
      | true =>
        have CR := Lib.hid (fun W => iw_any rm 1 40 W)
        rw [hR] at CR
        cases hE : isEv k y t v with
        | false =>
          rw [addR_no4 hE]
          have CE := Lib.hid (fun W => isEvent_x k y t v W)
          rw [hE] at CE
          clear hS hZ hR hE
          go_enter Try.func13, Try.ntmps13
          go_wp2_with fail
          refine (copied_any a _ c mk lt ov l _ _ HN.out rfl (by simp; omega) hlen).mono ?_
          rintro e w1 ⟨a1, c1, rfl, ho, hb⟩
          have s1 := hb.size
          simp only [World.size_alloc] at s1
          have T0 := Lib.hid ((TT.out.a.below hb).alloc (.cells #[.slice a1 l.length c1, .int .i64 mk, .int .i64 lt, .int .i64 ov] 30))
          have T1 := Lib.hid ((TT.out.b.below hb).alloc (.cells #[.slice a1 l.length c1, .int .i64 mk, .int .i64 lt, .int .i64 ov] 30))
          have T2 := Lib.hid ((TT.out.c.below hb).alloc (.cells #[.slice a1 l.length c1, .int .i64 mk, .int .i64 lt, .int .i64 ov] 30))
          have TN := Lib.hid (Blk.new w1 30 #[.slice a1 l.length c1, .int .i64 mk, .int .i64 lt, .int .i64 ov])
          have TO := Lib.hid ((owns_less ho (show w.heap.size ≤ _ by simp; omega)).alloc (.cells #[.slice a1 l.length c1, .int .i64 mk, .int .i64 lt, .int .i64 ov] 30))
          have TB := Lib.hid ((TT.out.bel.trans (hb.mono (by simp; omega))).alloc (by omega) (.cells #[.slice a1 l.length c1, .int .i64 mk, .int .i64 lt, .int .i64 ov] 30))
          have TA := Lib.hid ((HN.out.below (hb.mono (by simp; omega))).below ((Below.refl hi w1).alloc (by omega) (.cells #[.slice a1 l.length c1, .int .i64 mk, .int .i64 lt, .int .i64 ov] 30)))
          clear ho hb
          have q0 := T0.out.cell
          have qf := T1.out.cell
          have qr := T2.out.cell
          have qn := TN.out.cell
          have fr := T2.out.frozen
          have fn := TN.out.frozen
          go_wp2_with fail
          refine (HOK.out _ TA.out (by simp; omega)).mono ?_
          rintro e w2 ⟨rfl, hb⟩
          have T0 := Lib.hid (T0.out.below hb)
          have T1 := Lib.hid (T1.out.below hb)
          have T2 := Lib.hid (T2.out.below hb)
          have TN := Lib.hid (TN.out.below hb)
          have TO := Lib.hid (owns_below TO.out hb)
          have TB := Lib.hid (TB.out.trans (hb.mono TB.out.size))
          have s2 := hb.size
          simp only [World.size_alloc] at s2
          clear hb
          clear q0 qf qr qn fr fn
          have q0 := T0.out.cell
          have qf := T1.out.cell
          have qr := T2.out.cell
          have qn := TN.out.cell
          have fr := T2.out.frozen
          have fn := TN.out.frozen
          go_wp2_with fail
          refine (CZ.out _).mono ?_
          rintro e w' ⟨rfl, rfl⟩
          go_wp2_with fail
          refine (CR.out _).mono ?_
          rintro e w' ⟨rfl, rfl⟩
          go_wp2_with fail
          refine (CE.out _).mono ?_
          rintro e w3 ⟨rfl, hb⟩
          have T0 := Lib.hid (T0.out.below hb)
          have T1 := Lib.hid (T1.out.below hb)
          have T2 := Lib.hid (T2.out.below hb)
          have TN := Lib.hid (TN.out.below hb)
          have TO := Lib.hid (owns_below TO.out hb)
          have TB := Lib.hid (TB.out.trans (hb.mono TB.out.size))
          have s3 := hb.size
          clear hb
          clear q0 qf qr qn fr fn
          have q0 := T0.out.cell
          have qf := T1.out.cell
          have qr := T2.out.cell
          have qn := TN.out.cell
          have fr := T2.out.frozen
          have fn := TN.out.frozen
          have HP : Hid (FreshShardI ⟨l, lt, ov, 3⟩ mk w (.returned (.tuple #[.agg #[.slice a1 l.length c1, .int .i64 mk, .int .i64 lt, .int .i64 ov], .int .i64 3])) ((((w3.setCell ⟨w.heap.size + 1 + 1, 0, none⟩ (.slice a1 l.length c1)).setCell ⟨w.heap.size + 1 + 1, 1, none⟩ (.int .i64 mk)).setCell ⟨w.heap.size + 1 + 1, 2, none⟩ (.int .i64 lt)).setCell ⟨w.heap.size + 1 + 1, 3, none⟩ (.int .i64 ov))) :=
            ⟨a1, c1, rfl, row_keep4 TO.out T2.out _ _ _ _, below_set4 TB.out (by omega) _ _ _ _⟩
          go_wp2
          exact bodyPost_ret (v := .tuple #[.agg #[.slice a1 l.length c1, .int .i64 mk, .int .i64 lt, .int .i64 ov], .int .i64 3]) (by simp [results, Try.results13, go_sem, qr]) rfl HP.out
        | true =>
          have CE := Lib.hid (fun W => isEvent_x k y t v W)
          rw [hE] at CE
          have HG := addGood_yes hS hZ hR hE
          have hbd := sok_bd hS
          have hltb := inB_bd hbd.2.2.1
          have hovb := inB_bd hbd.2.2.2.1
          have CO := Lib.hid (fun W => aggOf_x k y t v sz W)
          by_cases hL : windowEnd (windowOf t sz) sz ≤ mk
          · rw [addR_late HG hL]
            have CC := Lib.hid (fun W => closedAt_x (windowOf t sz) y 1 v v v mk sz W)
            rw [decide_eq_true hL] at CC
            have hwr : IntKind.i64.wrap (lt + 1) = lt + 1 := IntWalk.i64_in _ (by omega)
            have CH := Lib.hid (fun W => implHeld_any (lt + 1) W)
            generalize capS (lt + 1) = Y at CH ⊢
            clear hS hZ hR hE HG hbd hL
            generalize windowOf t sz = X at CO CC
            go_enter Try.func13, Try.ntmps13
            go_wp2_with fail
            refine (copied_any a _ c mk lt ov l _ _ HN.out rfl (by simp; omega) hlen).mono ?_
            rintro e w1 ⟨a1, c1, rfl, ho, hb⟩
            have s1 := hb.size
            simp only [World.size_alloc] at s1
            have T0 := Lib.hid ((TT.out.a.below hb).alloc (.cells #[.slice a1 l.length c1, .int .i64 mk, .int .i64 lt, .int .i64 ov] 30))
            have T1 := Lib.hid ((TT.out.b.below hb).alloc (.cells #[.slice a1 l.length c1, .int .i64 mk, .int .i64 lt, .int .i64 ov] 30))
            have T2 := Lib.hid ((TT.out.c.below hb).alloc (.cells #[.slice a1 l.length c1, .int .i64 mk, .int .i64 lt, .int .i64 ov] 30))
            have TN := Lib.hid (Blk.new w1 30 #[.slice a1 l.length c1, .int .i64 mk, .int .i64 lt, .int .i64 ov])
            have TO := Lib.hid ((owns_less ho (show w.heap.size ≤ _ by simp; omega)).alloc (.cells #[.slice a1 l.length c1, .int .i64 mk, .int .i64 lt, .int .i64 ov] 30))
            have TB := Lib.hid ((TT.out.bel.trans (hb.mono (by simp; omega))).alloc (by omega) (.cells #[.slice a1 l.length c1, .int .i64 mk, .int .i64 lt, .int .i64 ov] 30))
            have TA := Lib.hid ((HN.out.below (hb.mono (by simp; omega))).below ((Below.refl hi w1).alloc (by omega) (.cells #[.slice a1 l.length c1, .int .i64 mk, .int .i64 lt, .int .i64 ov] 30)))
            clear ho hb
            have q0 := T0.out.cell
            have qf := T1.out.cell
            have qr := T2.out.cell
            have qn := TN.out.cell
            have fr := T2.out.frozen
            have fn := TN.out.frozen
            go_wp2_with fail
            refine (HOK.out _ TA.out (by simp; omega)).mono ?_
            rintro e w2 ⟨rfl, hb⟩
            have T0 := Lib.hid (T0.out.below hb)
            have T1 := Lib.hid (T1.out.below hb)
            have T2 := Lib.hid (T2.out.below hb)
            have TN := Lib.hid (TN.out.below hb)
            have TO := Lib.hid (owns_below TO.out hb)
            have TB := Lib.hid (TB.out.trans (hb.mono TB.out.size))
            have s2 := hb.size
            simp only [World.size_alloc] at s2
            clear hb
            clear q0 qf qr qn fr fn
            have q0 := T0.out.cell
            have qf := T1.out.cell
            have qr := T2.out.cell
            have qn := TN.out.cell
            have fr := T2.out.frozen
            have fn := TN.out.frozen
            go_wp2_with fail
            refine (CZ.out _).mono ?_
            rintro e w' ⟨rfl, rfl⟩
            go_wp2_with fail
            refine (CR.out _).mono ?_
            rintro e w' ⟨rfl, rfl⟩
            go_wp2_with fail
            refine (CE.out _).mono ?_
            rintro e w3 ⟨rfl, hb⟩
            have T0 := Lib.hid (T0.out.below hb)
            have T1 := Lib.hid (T1.out.below hb)
            have T2 := Lib.hid (T2.out.below hb)
            have TN := Lib.hid (TN.out.below hb)
            have TO := Lib.hid (owns_below TO.out hb)
            have TB := Lib.hid (TB.out.trans (hb.mono TB.out.size))
            have s3 := hb.size
            clear hb
            clear q0 qf qr qn fr fn
            have q0 := T0.out.cell
            have qf := T1.out.cell
            have qr := T2.out.cell
            have qn := TN.out.cell
            have fr := T2.out.frozen
            have fn := TN.out.frozen
            go_wp2_with fail
            refine (CO.out _).mono ?_
            rintro e w4 ⟨rfl, hb⟩
            have T0 := Lib.hid (T0.out.below hb)
            have T1 := Lib.hid (T1.out.below hb)
            have T2 := Lib.hid (T2.out.below hb)
            have TN := Lib.hid (TN.out.below hb)
            have TO := Lib.hid (owns_below TO.out hb)
            have TB := Lib.hid (TB.out.trans (hb.mono TB.out.size))
            have s4 := hb.size
            clear hb
            clear q0 qf qr qn fr fn
            have q0 := T0.out.cell
            have qf := T1.out.cell
            have qr := T2.out.cell
            have qn := TN.out.cell
            have fr := T2.out.frozen
            have fn := TN.out.frozen
            have T0 := Lib.hid (T0.out.alloc (.cells #[.int .i64 X, .int .i64 y, .int .i64 1, .int .i64 v, .int .i64 v, .int .i64 v] 44))
            have T1 := Lib.hid (T1.out.alloc (.cells #[.int .i64 X, .int .i64 y, .int .i64 1, .int .i64 v, .int .i64 v, .int .i64 v] 44))
            have T2 := Lib.hid (T2.out.alloc (.cells #[.int .i64 X, .int .i64 y, .int .i64 1, .int .i64 v, .int .i64 v, .int .i64 v] 44))
            have TN := Lib.hid (TN.out.alloc (.cells #[.int .i64 X, .int .i64 y, .int .i64 1, .int .i64 v, .int .i64 v, .int .i64 v] 44))
            have TO := Lib.hid (TO.out.alloc (.cells #[.int .i64 X, .int .i64 y, .int .i64 1, .int .i64 v, .int .i64 v, .int .i64 v] 44))
            have TB := Lib.hid (TB.out.alloc TB.out.size (.cells #[.int .i64 X, .int .i64 y, .int .i64 1, .int .i64 v, .int .i64 v, .int .i64 v] 44))
            have TG := Lib.hid (Blk.new w4 44 #[.int .i64 X, .int .i64 y, .int .i64 1, .int .i64 v, .int .i64 v, .int .i64 v])
            clear q0 qf qr qn fr fn
            have q0 := T0.out.cell
            have qf := T1.out.cell
            have qr := T2.out.cell
            have qn := TN.out.cell
            have qg := TG.out.cell
            have fr := T2.out.frozen
            have fn := TN.out.frozen
            go_wp2_with fail
            refine (CC.out _).mono ?_
            rintro e w5 ⟨rfl, hb⟩
            have T0 := Lib.hid (T0.out.below hb)
            have T1 := Lib.hid (T1.out.below hb)
            have T2 := Lib.hid (T2.out.below hb)
            have TN := Lib.hid (TN.out.below hb)
            have TG := Lib.hid (TG.out.below hb)
            have TO := Lib.hid (owns_below TO.out hb)
            have TB := Lib.hid (TB.out.trans (hb.mono TB.out.size))
            have s5 := hb.size
            simp only [World.size_alloc] at s5
            clear hb
            clear q0 qf qr qn qg fr fn
            have q0 := T0.out.cell
            have qf := T1.out.cell
            have qr := T2.out.cell
            have qn := TN.out.cell
            have qg := TG.out.cell
            have fr := T2.out.frozen
            have fn := TN.out.frozen
            have HP : Hid (FreshShardI ⟨l, Y, ov, 1⟩ mk w (.returned (.tuple #[.agg #[.slice a1 l.length c1, .int .i64 mk, .int .i64 Y, .int .i64 ov], .int .i64 1])) (((((w5.setCell ⟨w1.heap.size, 2, none⟩ (.int .i64 Y)).setCell ⟨w.heap.size + 1 + 1, 0, none⟩ (.slice a1 l.length c1)).setCell ⟨w.heap.size + 1 + 1, 1, none⟩ (.int .i64 mk)).setCell ⟨w.heap.size + 1 + 1, 2, none⟩ (.int .i64 Y)).setCell ⟨w.heap.size + 1 + 1, 3, none⟩ (.int .i64 ov))) :=
              ⟨a1, c1, rfl, row_keep4 (row_keep TO.out TN.out 2 _).1 (T2.out.far_ (p := ⟨w1.heap.size, 2, none⟩) (show w.heap.size + 1 + 1 ≠ w1.heap.size by omega) _) _ _ _ _, below_set4 (TB.out.setCell (p := ⟨w1.heap.size, 2, none⟩) (show w.heap.size ≤ w1.heap.size by omega) _) (by omega) _ _ _ _⟩
            go_wp2_with fail
            refine (CH.out _).mono ?_
            rintro e w' ⟨rfl, rfl⟩
            go_wp2
            exact bodyPost_ret (v := .tuple #[.agg #[.slice a1 l.length c1, .int .i64 mk, .int .i64 Y, .int .i64 ov], .int .i64 1]) (by simp [results, Try.results13, go_sem, qr]) rfl HP.out
          · have CC := Lib.hid (fun W => closedAt_x (windowOf t sz) y 1 v v v mk sz W)
            rw [decide_eq_false hL] at CC
            have hok := hbd.2.2.2.2
            have hl40 := hbd.1
            have CP := Lib.hid (fun (W : World) a1 c1 (h : Ags W W.heap.size a1 c1 l) => placeOf_x a1 l.length c1 mk lt ov l (windowOf t sz) y 1 v v v _ W h rfl (Nat.le_refl _) hok hlen)
            have hNl := placeN_le l (oneA (windowOf t sz) y v)
            cases hF : foundB l (oneA (windowOf t sz) y v) with
            | false =>
              by_cases hM : rm ≤ (l.length : Int)
              · rw [addR_full HG hL hF hM]
                have CP2 : Hid (∀ (W : World) a1 c1, Ags W W.heap.size a1 c1 l → Calls Try.prog 54 #[.agg #[.slice a1 l.length c1, .int .i64 mk, .int .i64 lt, .int .i64 ov], (.agg #[.int .i64 (windowOf t sz), .int .i64 y, .int .i64 1, .int .i64 v, .int .i64 v, .int .i64 v])] W fun e w' => e = .returned (.tuple #[.int .i64 (placeN l (oneA (windowOf t sz) y v) : Nat), .bool false]) ∧ Below W.heap.size W w') := Lib.hid (fun W a1 c1 h => by have := CP.out W a1 c1 h; rw [show foundB l ⟨windowOf t sz, y, 1, v, v, v⟩ = false from hF] at this; exact this)
                have CP := CP2
                clear CP2
                have hwr : IntKind.i64.wrap (ov + 1) = ov + 1 := IntWalk.i64_in _ (by omega)
                have CH := Lib.hid (fun W => implHeld_any (ov + 1) W)
                generalize capS (ov + 1) = Y at CH ⊢
                clear hS hZ hR hE HG hbd hL hok hF
                generalize windowOf t sz = X at CO CC CP hNl
                generalize placeN l (oneA X y v) = N at CP hNl
                go_enter Try.func13, Try.ntmps13
                go_wp2_with fail
                refine (copied_any a _ c mk lt ov l _ _ HN.out rfl (by simp; omega) hlen).mono ?_
                rintro e w1 ⟨a1, c1, rfl, ho, hb⟩
                have s1 := hb.size
                simp only [World.size_alloc] at s1
                have T0 := Lib.hid ((TT.out.a.below hb).alloc (.cells #[.slice a1 l.length c1, .int .i64 mk, .int .i64 lt, .int .i64 ov] 30))
                have T1 := Lib.hid ((TT.out.b.below hb).alloc (.cells #[.slice a1 l.length c1, .int .i64 mk, .int .i64 lt, .int .i64 ov] 30))
                have T2 := Lib.hid ((TT.out.c.below hb).alloc (.cells #[.slice a1 l.length c1, .int .i64 mk, .int .i64 lt, .int .i64 ov] 30))
                have TN := Lib.hid (Blk.new w1 30 #[.slice a1 l.length c1, .int .i64 mk, .int .i64 lt, .int .i64 ov])
                have TO := Lib.hid ((owns_less ho (show w.heap.size ≤ _ by simp; omega)).alloc (.cells #[.slice a1 l.length c1, .int .i64 mk, .int .i64 lt, .int .i64 ov] 30))
                have TB := Lib.hid ((TT.out.bel.trans (hb.mono (by simp; omega))).alloc (by omega) (.cells #[.slice a1 l.length c1, .int .i64 mk, .int .i64 lt, .int .i64 ov] 30))
                have TA := Lib.hid ((HN.out.below (hb.mono (by simp; omega))).below ((Below.refl hi w1).alloc (by omega) (.cells #[.slice a1 l.length c1, .int .i64 mk, .int .i64 lt, .int .i64 ov] 30)))
                clear ho hb
                have q0 := T0.out.cell
                have qf := T1.out.cell
                have qr := T2.out.cell
                have qn := TN.out.cell
                have fr := T2.out.frozen
                have fn := TN.out.frozen
                go_wp2_with fail
                refine (HOK.out _ TA.out (by simp; omega)).mono ?_
                rintro e w2 ⟨rfl, hb⟩
                have T0 := Lib.hid (T0.out.below hb)
                have T1 := Lib.hid (T1.out.below hb)
                have T2 := Lib.hid (T2.out.below hb)
                have TN := Lib.hid (TN.out.below hb)
                have TO := Lib.hid (owns_below TO.out hb)
                have TB := Lib.hid (TB.out.trans (hb.mono TB.out.size))
                have s2 := hb.size
                simp only [World.size_alloc] at s2
                clear hb
                clear q0 qf qr qn fr fn
                have q0 := T0.out.cell
                have qf := T1.out.cell
                have qr := T2.out.cell
                have qn := TN.out.cell
                have fr := T2.out.frozen
                have fn := TN.out.frozen
                go_wp2_with fail
                refine (CZ.out _).mono ?_
                rintro e w' ⟨rfl, rfl⟩
                go_wp2_with fail
                refine (CR.out _).mono ?_
                rintro e w' ⟨rfl, rfl⟩
                go_wp2_with fail
                refine (CE.out _).mono ?_
                rintro e w3 ⟨rfl, hb⟩
                have T0 := Lib.hid (T0.out.below hb)
                have T1 := Lib.hid (T1.out.below hb)
                have T2 := Lib.hid (T2.out.below hb)
                have TN := Lib.hid (TN.out.below hb)
                have TO := Lib.hid (owns_below TO.out hb)
                have TB := Lib.hid (TB.out.trans (hb.mono TB.out.size))
                have s3 := hb.size
                clear hb
                clear q0 qf qr qn fr fn
                have q0 := T0.out.cell
                have qf := T1.out.cell
                have qr := T2.out.cell
                have qn := TN.out.cell
                have fr := T2.out.frozen
                have fn := TN.out.frozen
                go_wp2_with fail
                refine (CO.out _).mono ?_
                rintro e w4 ⟨rfl, hb⟩
                have T0 := Lib.hid (T0.out.below hb)
                have T1 := Lib.hid (T1.out.below hb)
                have T2 := Lib.hid (T2.out.below hb)
                have TN := Lib.hid (TN.out.below hb)
                have TO := Lib.hid (owns_below TO.out hb)
                have TB := Lib.hid (TB.out.trans (hb.mono TB.out.size))
                have s4 := hb.size
                clear hb
                clear q0 qf qr qn fr fn
                have q0 := T0.out.cell
                have qf := T1.out.cell
                have qr := T2.out.cell
                have qn := TN.out.cell
                have fr := T2.out.frozen
                have fn := TN.out.frozen
                have T0 := Lib.hid (T0.out.alloc (.cells #[.int .i64 X, .int .i64 y, .int .i64 1, .int .i64 v, .int .i64 v, .int .i64 v] 44))
                have T1 := Lib.hid (T1.out.alloc (.cells #[.int .i64 X, .int .i64 y, .int .i64 1, .int .i64 v, .int .i64 v, .int .i64 v] 44))
                have T2 := Lib.hid (T2.out.alloc (.cells #[.int .i64 X, .int .i64 y, .int .i64 1, .int .i64 v, .int .i64 v, .int .i64 v] 44))
                have TN := Lib.hid (TN.out.alloc (.cells #[.int .i64 X, .int .i64 y, .int .i64 1, .int .i64 v, .int .i64 v, .int .i64 v] 44))
                have TO := Lib.hid (TO.out.alloc (.cells #[.int .i64 X, .int .i64 y, .int .i64 1, .int .i64 v, .int .i64 v, .int .i64 v] 44))
                have TB := Lib.hid (TB.out.alloc TB.out.size (.cells #[.int .i64 X, .int .i64 y, .int .i64 1, .int .i64 v, .int .i64 v, .int .i64 v] 44))
                have TG := Lib.hid (Blk.new w4 44 #[.int .i64 X, .int .i64 y, .int .i64 1, .int .i64 v, .int .i64 v, .int .i64 v])
                clear q0 qf qr qn fr fn
                have q0 := T0.out.cell
                have qf := T1.out.cell
                have qr := T2.out.cell
                have qn := TN.out.cell
                have qg := TG.out.cell
                have fr := T2.out.frozen
                have fn := TN.out.frozen
                go_wp2_with fail
                refine (CC.out _).mono ?_
                rintro e w5 ⟨rfl, hb⟩
                have T0 := Lib.hid (T0.out.below hb)
                have T1 := Lib.hid (T1.out.below hb)
                have T2 := Lib.hid (T2.out.below hb)
                have TN := Lib.hid (TN.out.below hb)
                have TG := Lib.hid (TG.out.below hb)
                have TO := Lib.hid (owns_below TO.out hb)
                have TB := Lib.hid (TB.out.trans (hb.mono TB.out.size))
                have s5 := hb.size
                simp only [World.size_alloc] at s5
                clear hb
                clear q0 qf qr qn qg fr fn
                have q0 := T0.out.cell
                have qf := T1.out.cell
                have qr := T2.out.cell
                have qn := TN.out.cell
                have qg := TG.out.cell
                have fr := T2.out.frozen
                have fn := TN.out.frozen
                go_wp2_with fail
                refine (CP.out _ _ _ (Ags.of_own TO.out)).mono ?_
                rintro e w6 ⟨rfl, hb⟩
                have T0 := Lib.hid (T0.out.below hb)
                have T1 := Lib.hid (T1.out.below hb)
                have T2 := Lib.hid (T2.out.below hb)
                have TN := Lib.hid (TN.out.below hb)
                have TG := Lib.hid (TG.out.below hb)
                have TO := Lib.hid (owns_below TO.out hb)
                have TB := Lib.hid (TB.out.trans (hb.mono TB.out.size))
                have s6 := hb.size
                clear hb
                clear q0 qf qr qn qg fr fn
                have q0 := T0.out.cell
                have qf := T1.out.cell
                have qr := T2.out.cell
                have qn := TN.out.cell
                have qg := TG.out.cell
                have fr := T2.out.frozen
                have fn := TN.out.frozen
                have HP : Hid (FreshShardI ⟨l, lt, Y, 2⟩ mk w (.returned (.tuple #[.agg #[.slice a1 l.length c1, .int .i64 mk, .int .i64 lt, .int .i64 Y], .int .i64 2])) (((((w6.setCell ⟨w1.heap.size, 3, none⟩ (.int .i64 Y)).setCell ⟨w.heap.size + 1 + 1, 0, none⟩ (.slice a1 l.length c1)).setCell ⟨w.heap.size + 1 + 1, 1, none⟩ (.int .i64 mk)).setCell ⟨w.heap.size + 1 + 1, 2, none⟩ (.int .i64 lt)).setCell ⟨w.heap.size + 1 + 1, 3, none⟩ (.int .i64 Y))) :=
                  ⟨a1, c1, rfl, row_keep4 (row_keep TO.out TN.out 3 _).1 (T2.out.far_ (p := ⟨w1.heap.size, 3, none⟩) (show w.heap.size + 1 + 1 ≠ w1.heap.size by omega) _) _ _ _ _, below_set4 (TB.out.setCell (p := ⟨w1.heap.size, 3, none⟩) (show w.heap.size ≤ w1.heap.size by omega) _) (by omega) _ _ _ _⟩
                go_wp2_with fail
                refine (CH.out _).mono ?_
                rintro e w' ⟨rfl, rfl⟩
                go_wp2
                exact bodyPost_ret (v := .tuple #[.agg #[.slice a1 l.length c1, .int .i64 mk, .int .i64 lt, .int .i64 Y], .int .i64 2]) (by simp [results, Try.results13, go_sem, qr]) rfl HP.out
              · rw [addR_put HG hL hF hM]
                have hM2 : (l.length : Int) < rm := by omega
                have CP2 : Hid (∀ (W : World) a1 c1, Ags W W.heap.size a1 c1 l → Calls Try.prog 54 #[.agg #[.slice a1 l.length c1, .int .i64 mk, .int .i64 lt, .int .i64 ov], (.agg #[.int .i64 (windowOf t sz), .int .i64 y, .int .i64 1, .int .i64 v, .int .i64 v, .int .i64 v])] W fun e w' => e = .returned (.tuple #[.int .i64 (placeN l (oneA (windowOf t sz) y v) : Nat), .bool false]) ∧ Below W.heap.size W w') := Lib.hid (fun W a1 c1 h => by have := CP.out W a1 c1 h; rw [show foundB l ⟨windowOf t sz, y, 1, v, v, v⟩ = false from hF] at this; exact this)
                have CP := CP2
                clear CP2
                clear hS hZ hR hE HG hbd hL hok hF hM
                generalize windowOf t sz = X at CO CC CP hNl ⊢
                generalize placeN l (oneA X y v) = N at CP hNl ⊢
                go_enter Try.func13, Try.ntmps13
                go_wp2_with fail
                refine (copied_any a _ c mk lt ov l _ _ HN.out rfl (by simp; omega) hlen).mono ?_
                rintro e w1 ⟨a1, c1, rfl, ho, hb⟩
                have s1 := hb.size
                simp only [World.size_alloc] at s1
                have T0 := Lib.hid ((TT.out.a.below hb).alloc (.cells #[.slice a1 l.length c1, .int .i64 mk, .int .i64 lt, .int .i64 ov] 30))
                have T1 := Lib.hid ((TT.out.b.below hb).alloc (.cells #[.slice a1 l.length c1, .int .i64 mk, .int .i64 lt, .int .i64 ov] 30))
                have T2 := Lib.hid ((TT.out.c.below hb).alloc (.cells #[.slice a1 l.length c1, .int .i64 mk, .int .i64 lt, .int .i64 ov] 30))
                have TN := Lib.hid (Blk.new w1 30 #[.slice a1 l.length c1, .int .i64 mk, .int .i64 lt, .int .i64 ov])
                have TO := Lib.hid ((owns_less ho (show w.heap.size ≤ _ by simp; omega)).alloc (.cells #[.slice a1 l.length c1, .int .i64 mk, .int .i64 lt, .int .i64 ov] 30))
                have TB := Lib.hid ((TT.out.bel.trans (hb.mono (by simp; omega))).alloc (by omega) (.cells #[.slice a1 l.length c1, .int .i64 mk, .int .i64 lt, .int .i64 ov] 30))
                have TA := Lib.hid ((HN.out.below (hb.mono (by simp; omega))).below ((Below.refl hi w1).alloc (by omega) (.cells #[.slice a1 l.length c1, .int .i64 mk, .int .i64 lt, .int .i64 ov] 30)))
                clear ho hb
                have q0 := T0.out.cell
                have qf := T1.out.cell
                have qr := T2.out.cell
                have qn := TN.out.cell
                have fr := T2.out.frozen
                have fn := TN.out.frozen
                go_wp2_with fail
                refine (HOK.out _ TA.out (by simp; omega)).mono ?_
                rintro e w2 ⟨rfl, hb⟩
                have T0 := Lib.hid (T0.out.below hb)
                have T1 := Lib.hid (T1.out.below hb)
                have T2 := Lib.hid (T2.out.below hb)
                have TN := Lib.hid (TN.out.below hb)
                have TO := Lib.hid (owns_below TO.out hb)
                have TB := Lib.hid (TB.out.trans (hb.mono TB.out.size))
                have s2 := hb.size
                simp only [World.size_alloc] at s2
                clear hb
                clear q0 qf qr qn fr fn
                have q0 := T0.out.cell
                have qf := T1.out.cell
                have qr := T2.out.cell
                have qn := TN.out.cell
                have fr := T2.out.frozen
                have fn := TN.out.frozen
                go_wp2_with fail
                refine (CZ.out _).mono ?_
                rintro e w' ⟨rfl, rfl⟩
                go_wp2_with fail
                refine (CR.out _).mono ?_
                rintro e w' ⟨rfl, rfl⟩
                go_wp2_with fail
                refine (CE.out _).mono ?_
                rintro e w3 ⟨rfl, hb⟩
                have T0 := Lib.hid (T0.out.below hb)
                have T1 := Lib.hid (T1.out.below hb)
                have T2 := Lib.hid (T2.out.below hb)
                have TN := Lib.hid (TN.out.below hb)
                have TO := Lib.hid (owns_below TO.out hb)
                have TB := Lib.hid (TB.out.trans (hb.mono TB.out.size))
                have s3 := hb.size
                clear hb
                clear q0 qf qr qn fr fn
                have q0 := T0.out.cell
                have qf := T1.out.cell
                have qr := T2.out.cell
                have qn := TN.out.cell
                have fr := T2.out.frozen
                have fn := TN.out.frozen
                go_wp2_with fail
                refine (CO.out _).mono ?_
                rintro e w4 ⟨rfl, hb⟩
                have T0 := Lib.hid (T0.out.below hb)
                have T1 := Lib.hid (T1.out.below hb)
                have T2 := Lib.hid (T2.out.below hb)
                have TN := Lib.hid (TN.out.below hb)
                have TO := Lib.hid (owns_below TO.out hb)
                have TB := Lib.hid (TB.out.trans (hb.mono TB.out.size))
                have s4 := hb.size
                clear hb
                clear q0 qf qr qn fr fn
                have q0 := T0.out.cell
                have qf := T1.out.cell
                have qr := T2.out.cell
                have qn := TN.out.cell
                have fr := T2.out.frozen
                have fn := TN.out.frozen
                have T0 := Lib.hid (T0.out.alloc (.cells #[.int .i64 X, .int .i64 y, .int .i64 1, .int .i64 v, .int .i64 v, .int .i64 v] 44))
                have T1 := Lib.hid (T1.out.alloc (.cells #[.int .i64 X, .int .i64 y, .int .i64 1, .int .i64 v, .int .i64 v, .int .i64 v] 44))
                have T2 := Lib.hid (T2.out.alloc (.cells #[.int .i64 X, .int .i64 y, .int .i64 1, .int .i64 v, .int .i64 v, .int .i64 v] 44))
                have TN := Lib.hid (TN.out.alloc (.cells #[.int .i64 X, .int .i64 y, .int .i64 1, .int .i64 v, .int .i64 v, .int .i64 v] 44))
                have TO := Lib.hid (TO.out.alloc (.cells #[.int .i64 X, .int .i64 y, .int .i64 1, .int .i64 v, .int .i64 v, .int .i64 v] 44))
                have TB := Lib.hid (TB.out.alloc TB.out.size (.cells #[.int .i64 X, .int .i64 y, .int .i64 1, .int .i64 v, .int .i64 v, .int .i64 v] 44))
                have TG := Lib.hid (Blk.new w4 44 #[.int .i64 X, .int .i64 y, .int .i64 1, .int .i64 v, .int .i64 v, .int .i64 v])
                clear q0 qf qr qn fr fn
                have q0 := T0.out.cell
                have qf := T1.out.cell
                have qr := T2.out.cell
                have qn := TN.out.cell
                have qg := TG.out.cell
                have fr := T2.out.frozen
                have fn := TN.out.frozen
                go_wp2_with fail
                refine (CC.out _).mono ?_
                rintro e w5 ⟨rfl, hb⟩
                have T0 := Lib.hid (T0.out.below hb)
                have T1 := Lib.hid (T1.out.below hb)
                have T2 := Lib.hid (T2.out.below hb)
                have TN := Lib.hid (TN.out.below hb)
                have TG := Lib.hid (TG.out.below hb)
                have TO := Lib.hid (owns_below TO.out hb)
                have TB := Lib.hid (TB.out.trans (hb.mono TB.out.size))
                have s5 := hb.size
                simp only [World.size_alloc] at s5
                clear hb
                clear q0 qf qr qn qg fr fn
                have q0 := T0.out.cell
                have qf := T1.out.cell
                have qr := T2.out.cell
                have qn := TN.out.cell
                have qg := TG.out.cell
                have fr := T2.out.frozen
                have fn := TN.out.frozen
                go_wp2_with fail
                refine (CP.out _ _ _ (Ags.of_own TO.out)).mono ?_
                rintro e w6 ⟨rfl, hb⟩
                have T0 := Lib.hid (T0.out.below hb)
                have T1 := Lib.hid (T1.out.below hb)
                have T2 := Lib.hid (T2.out.below hb)
                have TN := Lib.hid (TN.out.below hb)
                have TG := Lib.hid (TG.out.below hb)
                have TO := Lib.hid (owns_below TO.out hb)
                have TB := Lib.hid (TB.out.trans (hb.mono TB.out.size))
                have s6 := hb.size
                clear hb
                clear q0 qf qr qn qg fr fn
                have q0 := T0.out.cell
                have qf := T1.out.cell
                have qr := T2.out.cell
                have qn := TN.out.cell
                have qg := TG.out.cell
                have fr := T2.out.frozen
                have fn := TN.out.frozen
                go_wp2_with fail
                have TV := Lib.hid (Blk.new w6 44 #[.int .i64 X, .int .i64 y, .int .i64 1, .int .i64 v, .int .i64 v, .int .i64 v])
                have TO6 := Lib.hid (TO.out.alloc (.cells #[.int .i64 X, .int .i64 y, .int .i64 1, .int .i64 v, .int .i64 v, .int .i64 v] 44))
                have TB6 := Lib.hid (TB.out.alloc TB.out.size (.cells #[.int .i64 X, .int .i64 y, .int .i64 1, .int .i64 v, .int .i64 v, .int .i64 v] 44))
                have T26 := Lib.hid (T2.out.alloc (.cells #[.int .i64 X, .int .i64 y, .int .i64 1, .int .i64 v, .int .i64 v, .int .i64 v] 44))
                have TN6 := Lib.hid (TN.out.alloc (.cells #[.int .i64 X, .int .i64 y, .int .i64 1, .int .i64 v, .int .i64 v, .int .i64 v] 44))
                refine (insertA_any w.heap.size a1 c1 N l X y 1 v v v w6.heap.size _ TO6.out TV.out (fun h => by have := (TO.out.lt _ h.symm).2; omega) hNl (by have := TB6.out.size; exact this) hlen).mono ?_
                rintro e w7 ⟨a2, c2, rfl, ho2, hg2, hb2⟩
                have T27 := Lib.hid (T26.out.grown hg2 (own_blk_ne TO6.out T26.out (by decide)))
                have TN7 := Lib.hid (TN6.out.grown hg2 (own_blk_ne TO6.out TN6.out (by decide)))
                have TB7 := Lib.hid (TB6.out.trans hb2)
                have TO7 := Lib.hid ho2
                clear ho2 hg2 hb2 q0 qf qr qn qg fr fn
                have qr := T27.out.cell
                have qn := TN7.out.cell
                have fr := T27.out.frozen
                have fn := TN7.out.frozen
                have HP : Hid (FreshShardI ⟨putIn l N (oneA X y v), lt, ov, 0⟩ mk w (.returned (.tuple #[.agg #[.slice a2 (l.length + 1) c2, .int .i64 mk, .int .i64 lt, .int .i64 ov], .int .i64 0])) (((((w7.setCell ⟨w1.heap.size, 0, none⟩ (.slice a2 (l.length + 1) c2)).setCell ⟨w.heap.size + 1 + 1, 0, none⟩ (.slice a2 (l.length + 1) c2)).setCell ⟨w.heap.size + 1 + 1, 1, none⟩ (.int .i64 mk)).setCell ⟨w.heap.size + 1 + 1, 2, none⟩ (.int .i64 lt)).setCell ⟨w.heap.size + 1 + 1, 3, none⟩ (.int .i64 ov))) := by
                  have hpl := putIn_len (S := oneA X y v) hNl
                  refine ⟨a2, c2, by rw [hpl], ?_, below_set4 (TB7.out.setCell (p := ⟨w1.heap.size, 0, none⟩) (show w.heap.size ≤ w1.heap.size by omega) _) (by omega) _ _ _ _⟩
                  show World.ownsRow _ _ _ _ (.slice a2 (putIn l N (oneA X y v)).length c2) (putIn l N (oneA X y v)).length _
                  rw [hpl]
                  exact row_keep4 (row_keep TO7.out TN7.out 0 _).1 (T27.out.far_ (p := ⟨w1.heap.size, 0, none⟩) (show w.heap.size + 1 + 1 ≠ w1.heap.size by omega) _) _ _ _ _
                go_wp2
                exact bodyPost_ret (v := .tuple #[.agg #[.slice a2 (l.length + 1) c2, .int .i64 mk, .int .i64 lt, .int .i64 ov], .int .i64 0]) (by simp [results, Try.results13, go_sem, qr]) rfl HP.out
            | true =>
              rw [addR_found HG hL hF]
              have hN := (foundB_lt hF).1
              have hb0 := aggOk_bd (hok _ hN).1
              have hvb := isEv_v hE
              have CP2 : Hid (∀ (W : World) a1 c1, Ags W W.heap.size a1 c1 l → Calls Try.prog 54 #[.agg #[.slice a1 l.length c1, .int .i64 mk, .int .i64 lt, .int .i64 ov], (.agg #[.int .i64 (windowOf t sz), .int .i64 y, .int .i64 1, .int .i64 v, .int .i64 v, .int .i64 v])] W fun e w' => e = .returned (.tuple #[.int .i64 (placeN l (oneA (windowOf t sz) y v) : Nat), .bool true]) ∧ Below W.heap.size W w') := Lib.hid (fun W a1 c1 h => by have := CP.out W a1 c1 h; rw [show foundB l ⟨windowOf t sz, y, 1, v, v, v⟩ = true from hF] at this; exact this)
              have CP := CP2
              clear CP2
              have hb1 := Lib.hid (show -1000000000 ≤ (ael l (placeN l (oneA (windowOf t sz) y v))).cnt ∧ (ael l (placeN l (oneA (windowOf t sz) y v))).cnt ≤ 1000000000 by omega)
              have hb2 := Lib.hid (show -1000000000 ≤ (ael l (placeN l (oneA (windowOf t sz) y v))).sum ∧ (ael l (placeN l (oneA (windowOf t sz) y v))).sum ≤ 1000000000 by omega)
              clear hS hZ hR hE HG hbd hL hok hF hb0
              generalize windowOf t sz = X at CO CC CP hNl hN hb1 hb2 ⊢
              generalize placeN l (oneA X y v) = N at CP hNl hN hb1 hb2 ⊢
              go_enter Try.func13, Try.ntmps13
              go_wp2_with fail
              refine (copied_any a _ c mk lt ov l _ _ HN.out rfl (by simp; omega) hlen).mono ?_
              rintro e w1 ⟨a1, c1, rfl, ho, hb⟩
              have s1 := hb.size
              simp only [World.size_alloc] at s1
              have T0 := Lib.hid ((TT.out.a.below hb).alloc (.cells #[.slice a1 l.length c1, .int .i64 mk, .int .i64 lt, .int .i64 ov] 30))
              have T1 := Lib.hid ((TT.out.b.below hb).alloc (.cells #[.slice a1 l.length c1, .int .i64 mk, .int .i64 lt, .int .i64 ov] 30))
              have T2 := Lib.hid ((TT.out.c.below hb).alloc (.cells #[.slice a1 l.length c1, .int .i64 mk, .int .i64 lt, .int .i64 ov] 30))
              have TN := Lib.hid (Blk.new w1 30 #[.slice a1 l.length c1, .int .i64 mk, .int .i64 lt, .int .i64 ov])
              have TO := Lib.hid ((owns_less ho (show w.heap.size ≤ _ by simp; omega)).alloc (.cells #[.slice a1 l.length c1, .int .i64 mk, .int .i64 lt, .int .i64 ov] 30))
              have TB := Lib.hid ((TT.out.bel.trans (hb.mono (by simp; omega))).alloc (by omega) (.cells #[.slice a1 l.length c1, .int .i64 mk, .int .i64 lt, .int .i64 ov] 30))
              have TA := Lib.hid ((HN.out.below (hb.mono (by simp; omega))).below ((Below.refl hi w1).alloc (by omega) (.cells #[.slice a1 l.length c1, .int .i64 mk, .int .i64 lt, .int .i64 ov] 30)))
              clear ho hb
              have q0 := T0.out.cell
              have qf := T1.out.cell
              have qr := T2.out.cell
              have qn := TN.out.cell
              have fr := T2.out.frozen
              have fn := TN.out.frozen
              go_wp2_with fail
              refine (HOK.out _ TA.out (by simp; omega)).mono ?_
              rintro e w2 ⟨rfl, hb⟩
              have T0 := Lib.hid (T0.out.below hb)
              have T1 := Lib.hid (T1.out.below hb)
              have T2 := Lib.hid (T2.out.below hb)
              have TN := Lib.hid (TN.out.below hb)
              have TO := Lib.hid (owns_below TO.out hb)
              have TB := Lib.hid (TB.out.trans (hb.mono TB.out.size))
              have s2 := hb.size
              simp only [World.size_alloc] at s2
              clear hb
              clear q0 qf qr qn fr fn
              have q0 := T0.out.cell
              have qf := T1.out.cell
              have qr := T2.out.cell
              have qn := TN.out.cell
              have fr := T2.out.frozen
              have fn := TN.out.frozen
              go_wp2_with fail
              refine (CZ.out _).mono ?_
              rintro e w' ⟨rfl, rfl⟩
              go_wp2_with fail
              refine (CR.out _).mono ?_
              rintro e w' ⟨rfl, rfl⟩
              go_wp2_with fail
              refine (CE.out _).mono ?_
              rintro e w3 ⟨rfl, hb⟩
              have T0 := Lib.hid (T0.out.below hb)
              have T1 := Lib.hid (T1.out.below hb)
              have T2 := Lib.hid (T2.out.below hb)
              have TN := Lib.hid (TN.out.below hb)
              have TO := Lib.hid (owns_below TO.out hb)
              have TB := Lib.hid (TB.out.trans (hb.mono TB.out.size))
              have s3 := hb.size
              clear hb
              clear q0 qf qr qn fr fn
              have q0 := T0.out.cell
              have qf := T1.out.cell
              have qr := T2.out.cell
              have qn := TN.out.cell
              have fr := T2.out.frozen
              have fn := TN.out.frozen
              go_wp2_with fail
              refine (CO.out _).mono ?_
              rintro e w4 ⟨rfl, hb⟩
              have T0 := Lib.hid (T0.out.below hb)
              have T1 := Lib.hid (T1.out.below hb)
              have T2 := Lib.hid (T2.out.below hb)
              have TN := Lib.hid (TN.out.below hb)
              have TO := Lib.hid (owns_below TO.out hb)
              have TB := Lib.hid (TB.out.trans (hb.mono TB.out.size))
              have s4 := hb.size
              clear hb
              clear q0 qf qr qn fr fn
              have q0 := T0.out.cell
              have qf := T1.out.cell
              have qr := T2.out.cell
              have qn := TN.out.cell
              have fr := T2.out.frozen
              have fn := TN.out.frozen
              have T0 := Lib.hid (T0.out.alloc (.cells #[.int .i64 X, .int .i64 y, .int .i64 1, .int .i64 v, .int .i64 v, .int .i64 v] 44))
              have T1 := Lib.hid (T1.out.alloc (.cells #[.int .i64 X, .int .i64 y, .int .i64 1, .int .i64 v, .int .i64 v, .int .i64 v] 44))
              have T2 := Lib.hid (T2.out.alloc (.cells #[.int .i64 X, .int .i64 y, .int .i64 1, .int .i64 v, .int .i64 v, .int .i64 v] 44))
              have TN := Lib.hid (TN.out.alloc (.cells #[.int .i64 X, .int .i64 y, .int .i64 1, .int .i64 v, .int .i64 v, .int .i64 v] 44))
              have TO := Lib.hid (TO.out.alloc (.cells #[.int .i64 X, .int .i64 y, .int .i64 1, .int .i64 v, .int .i64 v, .int .i64 v] 44))
              have TB := Lib.hid (TB.out.alloc TB.out.size (.cells #[.int .i64 X, .int .i64 y, .int .i64 1, .int .i64 v, .int .i64 v, .int .i64 v] 44))
              have TG := Lib.hid (Blk.new w4 44 #[.int .i64 X, .int .i64 y, .int .i64 1, .int .i64 v, .int .i64 v, .int .i64 v])
              clear q0 qf qr qn fr fn
              have q0 := T0.out.cell
              have qf := T1.out.cell
              have qr := T2.out.cell
              have qn := TN.out.cell
              have qg := TG.out.cell
              have fr := T2.out.frozen
              have fn := TN.out.frozen
              go_wp2_with fail
              refine (CC.out _).mono ?_
              rintro e w5 ⟨rfl, hb⟩
              have T0 := Lib.hid (T0.out.below hb)
              have T1 := Lib.hid (T1.out.below hb)
              have T2 := Lib.hid (T2.out.below hb)
              have TN := Lib.hid (TN.out.below hb)
              have TG := Lib.hid (TG.out.below hb)
              have TO := Lib.hid (owns_below TO.out hb)
              have TB := Lib.hid (TB.out.trans (hb.mono TB.out.size))
              have s5 := hb.size
              simp only [World.size_alloc] at s5
              clear hb
              clear q0 qf qr qn qg fr fn
              have q0 := T0.out.cell
              have qf := T1.out.cell
              have qr := T2.out.cell
              have qn := TN.out.cell
              have qg := TG.out.cell
              have fr := T2.out.frozen
              have fn := TN.out.frozen
              go_wp2_with fail
              refine (CP.out _ _ _ (Ags.of_own TO.out)).mono ?_
              rintro e w6 ⟨rfl, hb⟩
              have T0 := Lib.hid (T0.out.below hb)
              have T1 := Lib.hid (T1.out.below hb)
              have T2 := Lib.hid (T2.out.below hb)
              have TN := Lib.hid (TN.out.below hb)
              have TG := Lib.hid (TG.out.below hb)
              have TO := Lib.hid (owns_below TO.out hb)
              have TB := Lib.hid (TB.out.trans (hb.mono TB.out.size))
              have s6 := hb.size
              clear hb
              clear q0 qf qr qn qg fr fn
              have q0 := T0.out.cell
              have qf := T1.out.cell
              have qr := T2.out.cell
              have qn := TN.out.cell
              have qg := TG.out.cell
              have fr := T2.out.frozen
              have fn := TN.out.frozen
              have T26 := Lib.hid T2.out
              have TN6 := Lib.hid TN.out
              have TO6 := Lib.hid TO.out
              have TB6 := Lib.hid TB.out
              obtain ⟨g1, rfl, hg1, hg2⟩ := ownR_block TO6.out (by omega)
              have hne2 := own_blk_ne TO6.out T26.out (by decide)
              have hneN := own_blk_ne TO6.out TN6.out (by decide)
              obtain ⟨z0, z1, z2, z3, z4, z5⟩ := own_ag TO6.out N hN
              have hfz := TO6.out.frozenAt
              have HM6 : Hid (Mid w6 g1 (N * 6) (ael l N).cnt (ael l N).sum (ael l N).mn (ael l N).mx) := Lib.hid ⟨z2, z3, z4, z5, hfz⟩
              have hN' : (N : Int) < (l.length : Int) := by omega
              clear z0 z1 z2 z3 z4 z5 hfz
              go_wp2_with fail
              go_still_tail 5, (by kernel_rfl)
              change wpList _ _ _ _ _ w6.drew
              go_wp2_with fail
              refine (merge_x g1 (N * 6) (ael l N).cnt (ael l N).sum (ael l N).mn (ael l N).mx X y 1 v v v w6.drew hg2 HM6.out.drew hb1.out hb2.out (by omega) (by omega)).mono ?_
              rintro e w7 ⟨rfl, hmg⟩
              have G7 := hmg.grown
              have T27 := Lib.hid ((show Blk w6.drew _ _ _ from T26.out).grown G7 hne2)
              have TN7 := Lib.hid ((show Blk w6.drew _ _ _ from TN6.out).grown G7 hneN)
              have TO7 := Lib.hid (hmg.own (show w6.drew.ownsRow _ _ _ _ _ _ from TO6.out) hN)
              have TB7 := Lib.hid (TB6.out.drew.trans (below_grown_own G7 hg1 TB6.out.drew.size))
              clear G7 hmg hne2 hneN q0 qf qr qn qg fr fn
              have qr := T27.out.cell
              have qn := TN7.out.cell
              have fr := T27.out.frozen
              have HP : Hid (FreshShardI ⟨l.set N (sumA (ael l N) (oneA X y v)), lt, ov, 0⟩ mk w (.returned (.tuple #[.agg #[.slice (some ⟨g1, 0, none⟩) l.length c1, .int .i64 mk, .int .i64 lt, .int .i64 ov], .int .i64 0])) ((((w7.setCell ⟨w.heap.size + 1 + 1, 0, none⟩ (.slice (some ⟨g1, 0, none⟩) l.length c1)).setCell ⟨w.heap.size + 1 + 1, 1, none⟩ (.int .i64 mk)).setCell ⟨w.heap.size + 1 + 1, 2, none⟩ (.int .i64 lt)).setCell ⟨w.heap.size + 1 + 1, 3, none⟩ (.int .i64 ov))) := by
                have hpl : (l.set N (sumA (ael l N) (oneA X y v))).length = l.length := List.length_set
                refine ⟨some ⟨g1, 0, none⟩, c1, by rw [hpl], ?_, below_set4 TB7.out (by omega) _ _ _ _⟩
                show World.ownsRow _ _ _ _ (.slice (some ⟨g1, 0, none⟩) (l.set N (sumA (ael l N) (oneA X y v))).length c1) (l.set N (sumA (ael l N) (oneA X y v))).length _
                rw [hpl]
                exact row_keep4 TO7.out T27.out _ _ _ _
              go_wp2
              exact bodyPost_ret (v := .tuple #[.agg #[.slice (some ⟨g1, 0, none⟩) l.length c1, .int .i64 mk, .int .i64 lt, .int .i64 ov], .int .i64 0]) (by simp [results, Try.results13, go_sem, qr]) rfl HP.out
end Go.Proofs.Ytnnpppdgkbmieaa
