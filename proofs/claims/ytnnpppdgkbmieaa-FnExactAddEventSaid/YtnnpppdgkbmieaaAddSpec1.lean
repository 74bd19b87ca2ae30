/- The contract of spec.AddEvent: the early ways. (made by tools/mkadds.py) -/
import Derived.Test.YtnnpppdgkbmieaaAddImpl
import Derived.StillTailTactics
namespace Go.Proofs.Ytnnpppdgkbmieaa
open Go.RowKit
theorem winOfS_q (t s : Int) (w : World) : Calls Try.prog 40 #[.int .i64 t, .int .i64 s] w fun e w' => e = .returned (.int .i64 (windowOf t s)) ∧ w' = w := (specWinOf_any t s w).mono fun _ _ ⟨h, h2⟩ => ⟨h, h2.symm⟩
theorem winEndS_q (t s : Int) (w : World) : Calls Try.prog 41 #[.int .i64 t, .int .i64 s] w fun e w' => e = .returned (.int .i64 (windowEnd t s)) ∧ w' = w := (specWinEnd_any t s w).mono fun _ _ ⟨h, h2⟩ => ⟨h, h2.symm⟩

set_option maxHeartbeats 8000000 in
set_option maxRecDepth 100000 in
theorem specAdd_bad (a : Option Addr) (n c : Nat) (mk lt ov sz rm k y t v : Int) (l : List Ag) (hi : Nat) (w : World) (hr : Ags w hi a c l) (hn : n = l.length) (hB : hi ≤ w.heap.size) (hlen : l.length ≤ 1048576) (hG : addGood l mk lt ov sz rm k y t v = false) :
    Calls Try.prog 10 #[.agg #[.slice a n c, .int .i64 mk, .int .i64 lt, .int .i64 ov], .int .i64 sz, .int .i64 rm, (.agg #[.int .i64 k, .int .i64 y, .int .i64 t, .int .i64 v])] w (FreshShardI (addR l mk lt ov sz rm k y t v) mk w) := by
  subst hn
  have hc1 := hr.cap
  have hc2 := hr.big
  have tt := three_new w 30 34 30 #[.slice a l.length c, .int .i64 mk, .int .i64 lt, .int .i64 ov] #[.int .i64 k, .int .i64 y, .int .i64 t, .int .i64 v] #[.slice none 0 0, .int .i64 0, .int .i64 0, .int .i64 0]
  have HN := Lib.hid (hr.below (tt.bel.mono hB))
  have TT := Lib.hid tt
  have HOK := Lib.hid (fun (W : World) (h : Ags W hi a c l) (h2 : hi ≤ W.heap.size) => specShardOk_any a l.length c mk lt ov l hi W h rfl h2)
  clear hr tt
  cases hS : sokB l mk lt ov with
  | false =>
    rw [addR_no1 hS]
    rw [hS] at HOK
    clear hS hG
    go_enter Try.func10, Try.ntmps10
    go_wp2_with fail
    refine (specCopy_any a _ c mk lt ov l _ _ HN.out rfl (by simp; omega) hlen).mono ?_
    rintro e w1 ⟨a1, c1, rfl, ho, hb⟩
    have s1 := hb.size
    simp only [World.size_alloc] at s1
    have T0 := Lib.hid ((TT.out.a.below hb).alloc (.cells #[.slice a1 l.length c1, .int .i64 mk, .int .i64 lt, .int .i64 ov] 30))
    have T1 := Lib.hid ((TT.out.b.below hb).alloc (.cells #[.slice a1 l.length c1, .int .i64 mk, .int .i64 lt, .int .i64 ov] 30))
    have T2 := Lib.hid ((TT.out.c.below hb).alloc (.cells #[.slice a1 l.length c1, .int .i64 mk, .int .i64 lt, .int .i64 ov] 30))
    have TN := Lib.hid (Blk.new w1 30 #[.slice a1 l.length c1, .int .i64 mk, .int .i64 lt, .int .i64 ov])
    have TO := Lib.hid ((owns_less ho (show w.heap.size ≤ _ by simp; omega)).alloc (.cells #[.slice a1 l.length c1, .int .i64 mk, .int .i64 lt, .int .i64 ov] 30))
    have TB := Lib.hid ((TT.out.bel.trans (hb.mono (by simp; omega))).alloc (by omega) (.cells #[.slice a1 l.length c1, .int .i64 mk, .int .i64 lt, .int .i64 ov] 30))
    have TA := Lib.hid ((HN.out.below (hb.mono (by simp; omega))).below ((Below.refl hi w1).alloc (by omega) (.cells #[.slice a1 l.length c1, .int .i64 mk, .int .i64 lt, .int .i64 ov] 30)))
    clear ho hb
    have q0 := T0.out.cell
    have qf := T1.out.cell
    have qr := T2.out.cell
    have qn := TN.out.cell
    have fr := T2.out.frozen
    have fn := TN.out.frozen
    go_wp2_with fail
    refine (HOK.out _ TA.out (by simp; omega)).mono ?_
    rintro e w2 ⟨rfl, hb⟩
    have T0 := Lib.hid (T0.out.below hb)
    have T1 := Lib.hid (T1.out.below hb)
    have T2 := Lib.hid (T2.out.below hb)
    have TN := Lib.hid (TN.out.below hb)
    have TO := Lib.hid (owns_below TO.out hb)
    have TB := Lib.hid (TB.out.trans (hb.mono TB.out.size))
    have s2 := hb.size
    simp only [World.size_alloc] at s2
    clear hb
    clear q0 qf qr qn fr fn
    have q0 := T0.out.cell
    have qf := T1.out.cell
    have qr := T2.out.cell
    have qn := TN.out.cell
    have fr := T2.out.frozen
    have fn := TN.out.frozen
    have HP : Hid (FreshShardI ⟨l, lt, ov, 3⟩ mk w (.returned (.tuple #[.agg #[.slice a1 l.length c1, .int .i64 mk, .int .i64 lt, .int .i64 ov], .int .i64 3])) ((((w2.setCell ⟨w.heap.size + 1 + 1, 0, none⟩ (.slice a1 l.length c1)).setCell ⟨w.heap.size + 1 + 1, 1, none⟩ (.int .i64 mk)).setCell ⟨w.heap.size + 1 + 1, 2, none⟩ (.int .i64 lt)).setCell ⟨w.heap.size + 1 + 1, 3, none⟩ (.int .i64 ov))) :=
      ⟨a1, c1, rfl, row_keep4 TO.out T2.out _ _ _ _, below_set4 TB.out (by omega) _ _ _ _⟩
    go_wp2
    exact bodyPost_ret (v := .tuple #[.agg #[.slice a1 l.length c1, .int .i64 mk, .int .i64 lt, .int .i64 ov], .int .i64 3]) (by simp [results, Try.results10, go_sem, qr]) rfl HP.out
  | true =>
    rw [hS] at HOK
    cases hZ : inB sz 1 1000000 with
    | false =>
      rw [addR_no2 hZ]
      have CZ := Lib.hid (fun W => specIn_any sz (1) (1000000) W)
      rw [hZ] at CZ
      clear hS hZ hG
      go_enter Try.func10, Try.ntmps10
      go_wp2_with fail
      refine (specCopy_any a _ c mk lt ov l _ _ HN.out rfl (by simp; omega) hlen).mono ?_
      rintro e w1 ⟨a1, c1, rfl, ho, hb⟩
      have s1 := hb.size
      simp only [World.size_alloc] at s1
      have T0 := Lib.hid ((TT.out.a.below hb).alloc (.cells #[.slice a1 l.length c1, .int .i64 mk, .int .i64 lt, .int .i64 ov] 30))
      have T1 := Lib.hid ((TT.out.b.below hb).alloc (.cells #[.slice a1 l.length c1, .int .i64 mk, .int .i64 lt, .int .i64 ov] 30))
      have T2 := Lib.hid ((TT.out.c.below hb).alloc (.cells #[.slice a1 l.length c1, .int .i64 mk, .int .i64 lt, .int .i64 ov] 30))
      have TN := Lib.hid (Blk.new w1 30 #[.slice a1 l.length c1, .int .i64 mk, .int .i64 lt, .int .i64 ov])
      have TO := Lib.hid ((owns_less ho (show w.heap.size ≤ _ by simp; omega)).alloc (.cells #[.slice a1 l.length c1, .int .i64 mk, .int .i64 lt, .int .i64 ov] 30))
      have TB := Lib.hid ((TT.out.bel.trans (hb.mono (by simp; omega))).alloc (by omega) (.cells #[.slice a1 l.length c1, .int .i64 mk, .int .i64 lt, .int .i64 ov] 30))
      have TA := Lib.hid ((HN.out.below (hb.mono (by simp; omega))).below ((Below.refl hi w1).alloc (by omega) (.cells #[.slice a1 l.length c1, .int .i64 mk, .int .i64 lt, .int .i64 ov] 30)))
      clear ho hb
      have q0 := T0.out.cell
      have qf := T1.out.cell
      have qr := T2.out.cell
      have qn := TN.out.cell
      have fr := T2.out.frozen
      have fn := TN.out.frozen
      go_wp2_with fail
      refine (HOK.out _ TA.out (by simp; omega)).mono ?_
      rintro e w2 ⟨rfl, hb⟩
      have T0 := Lib.hid (T0.out.below hb)
      have T1 := Lib.hid (T1.out.below hb)
      have T2 := Lib.hid (T2.out.below hb)
      have TN := Lib.hid (TN.out.below hb)
      have TO := Lib.hid (owns_below TO.out hb)
      have TB := Lib.hid (TB.out.trans (hb.mono TB.out.size))
      have s2 := hb.size
      simp only [World.size_alloc] at s2
      clear hb
      clear q0 qf qr qn fr fn
      have q0 := T0.out.cell
      have qf := T1.out.cell
      have qr := T2.out.cell
      have qn := TN.out.cell
      have fr := T2.out.frozen
      have fn := TN.out.frozen
      have HP : Hid (FreshShardI ⟨l, lt, ov, 3⟩ mk w (.returned (.tuple #[.agg #[.slice a1 l.length c1, .int .i64 mk, .int .i64 lt, .int .i64 ov], .int .i64 3])) ((((w2.setCell ⟨w.heap.size + 1 + 1, 0, none⟩ (.slice a1 l.length c1)).setCell ⟨w.heap.size + 1 + 1, 1, none⟩ (.int .i64 mk)).setCell ⟨w.heap.size + 1 + 1, 2, none⟩ (.int .i64 lt)).setCell ⟨w.heap.size + 1 + 1, 3, none⟩ (.int .i64 ov))) :=
        ⟨a1, c1, rfl, row_keep4 TO.out T2.out _ _ _ _, below_set4 TB.out (by omega) _ _ _ _⟩
      go_wp2_with fail
      refine (CZ.out _).mono ?_
      rintro e w' ⟨rfl, rfl⟩
      go_wp2
      exact bodyPost_ret (v := .tuple #[.agg #[.slice a1 l.length c1, .int .i64 mk, .int .i64 lt, .int .i64 ov], .int .i64 3]) (by simp [results, Try.results10, go_sem, qr]) rfl HP.out
    | true =>
      have CZ := Lib.hid (fun W => specIn_any sz (1) (1000000) W)
      rw [hZ] at CZ
      cases hR : inB rm 1 40 with
      | false =>
        rw [addR_no3 hR]
        have CR := Lib.hid (fun W => specIn_any rm (1) (40) W)
        rw [hR] at CR
        clear hS hZ hR hG
        go_enter Try.func10, Try.ntmps10
        go_wp2_with fail
        refine (specCopy_any a _ c mk lt ov l _ _ HN.out rfl (by simp; omega) hlen).mono ?_
        rintro e w1 ⟨a1, c1, rfl, ho, hb⟩
        have s1 := hb.size
        simp only [World.size_alloc] at s1
        have T0 := Lib.hid ((TT.out.a.below hb).alloc (.cells #[.slice a1 l.length c1, .int .i64 mk, .int .i64 lt, .int .i64 ov] 30))
        have T1 := Lib.hid ((TT.out.b.below hb).alloc (.cells #[.slice a1 l.length c1, .int .i64 mk, .int .i64 lt, .int .i64 ov] 30))
        have T2 := Lib.hid ((TT.out.c.below hb).alloc (.cells #[.slice a1 l.length c1, .int .i64 mk, .int .i64 lt, .int .i64 ov] 30))
        have TN := Lib.hid (Blk.new w1 30 #[.slice a1 l.length c1, .int .i64 mk, .int .i64 lt, .int .i64 ov])
        have TO := Lib.hid ((owns_less ho (show w.heap.size ≤ _ by simp; omega)).alloc (.cells #[.slice a1 l.length c1, .int .i64 mk, .int .i64 lt, .int .i64 ov] 30))
        have TB := Lib.hid ((TT.out.bel.trans (hb.mono (by simp; omega))).alloc (by omega) (.cells #[.slice a1 l.length c1, .int .i64 mk, .int .i64 lt, .int .i64 ov] 30))
        have TA := Lib.hid ((HN.out.below (hb.mono (by simp; omega))).below ((Below.refl hi w1).alloc (by omega) (.cells #[.slice a1 l.length c1, .int .i64 mk, .int .i64 lt, .int .i64 ov] 30)))
        clear ho hb
        have q0 := T0.out.cell
        have qf := T1.out.cell
        have qr := T2.out.cell
        have qn := TN.out.cell
        have fr := T2.out.frozen
        have fn := TN.out.frozen
        go_wp2_with fail
        refine (HOK.out _ TA.out (by simp; omega)).mono ?_
        rintro e w2 ⟨rfl, hb⟩
        have T0 := Lib.hid (T0.out.below hb)
        have T1 := Lib.hid (T1.out.below hb)
        have T2 := Lib.hid (T2.out.below hb)
        have TN := Lib.hid (TN.out.below hb)
        have TO := Lib.hid (owns_below TO.out hb)
        have TB := Lib.hid (TB.out.trans (hb.mono TB.out.size))
        have s2 := hb.size
        simp only [World.size_alloc] at s2
        clear hb
        clear q0 qf qr qn fr fn
        have q0 := T0.out.cell
        have qf := T1.out.cell
        have qr := T2.out.cell
        have qn := TN.out.cell
        have fr := T2.out.frozen
        have fn := TN.out.frozen
        have HP : Hid (FreshShardI ⟨l, lt, ov, 3⟩ mk w (.returned (.tuple #[.agg #[.slice a1 l.length c1, .int .i64 mk, .int .i64 lt, .int .i64 ov], .int .i64 3])) ((((w2.setCell ⟨w.heap.size + 1 + 1, 0, none⟩ (.slice a1 l.length c1)).setCell ⟨w.heap.size + 1 + 1, 1, none⟩ (.int .i64 mk)).setCell ⟨w.heap.size + 1 + 1, 2, none⟩ (.int .i64 lt)).setCell ⟨w.heap.size + 1 + 1, 3, none⟩ (.int .i64 ov))) :=
          ⟨a1, c1, rfl, row_keep4 TO.out T2.out _ _ _ _, below_set4 TB.out (by omega) _ _ _ _⟩
        go_wp2_with fail
        refine (CZ.out _).mono ?_
        rintro e w' ⟨rfl, rfl⟩
        go_wp2_with fail
        refine (CR.out _).mono ?_
        rintro e w' ⟨rfl, rfl⟩
        go_wp2
        exact bodyPost_ret (v := .tuple #[.agg #[.slice a1 l.length c1, .int .i64 mk, .int .i64 lt, .int .i64 ov], .int .i64 3]) (by simp [results, Try.results10, go_sem, qr]) rfl HP.out
      | true =>
        have CR := Lib.hid (fun W => specIn_any rm (1) (40) W)
        rw [hR] at CR
        by_cases hk : k = 1
        · subst hk
          cases hE : fOk 1 y t v with
          | true =>
            rw [addGood_yes hS hZ hR (show isEv 1 y t v = true by simp [isEv, hE])] at hG
            cases hG
          | false =>
            rw [addR_no4 (show isEv 1 y t v = false by simp [isEv, hE])]
            have CE := Lib.hid (fun W => specFrameOk_any 1 y t v W)
            rw [hE] at CE
            clear hS hZ hR hE hG
            go_enter Try.func10, Try.ntmps10
            go_wp2_with fail
            refine (specCopy_any a _ c mk lt ov l _ _ HN.out rfl (by simp; omega) hlen).mono ?_
            rintro e w1 ⟨a1, c1, rfl, ho, hb⟩
            have s1 := hb.size
            simp only [World.size_alloc] at s1
            have T0 := Lib.hid ((TT.out.a.below hb).alloc (.cells #[.slice a1 l.length c1, .int .i64 mk, .int .i64 lt, .int .i64 ov] 30))
            have T1 := Lib.hid ((TT.out.b.below hb).alloc (.cells #[.slice a1 l.length c1, .int .i64 mk, .int .i64 lt, .int .i64 ov] 30))
            have T2 := Lib.hid ((TT.out.c.below hb).alloc (.cells #[.slice a1 l.length c1, .int .i64 mk, .int .i64 lt, .int .i64 ov] 30))
            have TN := Lib.hid (Blk.new w1 30 #[.slice a1 l.length c1, .int .i64 mk, .int .i64 lt, .int .i64 ov])
            have TO := Lib.hid ((owns_less ho (show w.heap.size ≤ _ by simp; omega)).alloc (.cells #[.slice a1 l.length c1, .int .i64 mk, .int .i64 lt, .int .i64 ov] 30))
            have TB := Lib.hid ((TT.out.bel.trans (hb.mono (by simp; omega))).alloc (by omega) (.cells #[.slice a1 l.length c1, .int .i64 mk, .int .i64 lt, .int .i64 ov] 30))
            have TA := Lib.hid ((HN.out.below (hb.mono (by simp; omega))).below ((Below.refl hi w1).alloc (by omega) (.cells #[.slice a1 l.length c1, .int .i64 mk, .int .i64 lt, .int .i64 ov] 30)))
            clear ho hb
            have q0 := T0.out.cell
            have qf := T1.out.cell
            have qr := T2.out.cell
            have qn := TN.out.cell
            have fr := T2.out.frozen
            have fn := TN.out.frozen
            go_wp2_with fail
            refine (HOK.out _ TA.out (by simp; omega)).mono ?_
            rintro e w2 ⟨rfl, hb⟩
            have T0 := Lib.hid (T0.out.below hb)
            have T1 := Lib.hid (T1.out.below hb)
            have T2 := Lib.hid (T2.out.below hb)
            have TN := Lib.hid (TN.out.below hb)
            have TO := Lib.hid (owns_below TO.out hb)
            have TB := Lib.hid (TB.out.trans (hb.mono TB.out.size))
            have s2 := hb.size
            simp only [World.size_alloc] at s2
            clear hb
            clear q0 qf qr qn fr fn
            have q0 := T0.out.cell
            have qf := T1.out.cell
            have qr := T2.out.cell
            have qn := TN.out.cell
            have fr := T2.out.frozen
            have fn := TN.out.frozen
            go_wp2_with fail
            refine (CZ.out _).mono ?_
            rintro e w' ⟨rfl, rfl⟩
            go_wp2_with fail
            refine (CR.out _).mono ?_
            rintro e w' ⟨rfl, rfl⟩
            go_wp2_with fail
            refine (CE.out _).mono ?_
            rintro e w3 ⟨rfl, hb⟩
            have T0 := Lib.hid (T0.out.below hb)
            have T1 := Lib.hid (T1.out.below hb)
            have T2 := Lib.hid (T2.out.below hb)
            have TN := Lib.hid (TN.out.below hb)
            have TO := Lib.hid (owns_below TO.out hb)
            have TB := Lib.hid (TB.out.trans (hb.mono TB.out.size))
            have s3 := hb.size
            clear hb
            clear q0 qf qr qn fr fn
            have q0 := T0.out.cell
            have qf := T1.out.cell
            have qr := T2.out.cell
            have qn := TN.out.cell
            have fr := T2.out.frozen
            have fn := TN.out.frozen
            have HP : Hid (FreshShardI ⟨l, lt, ov, 3⟩ mk w (.returned (.tuple #[.agg #[.slice a1 l.length c1, .int .i64 mk, .int .i64 lt, .int .i64 ov], .int .i64 3])) ((((w3.setCell ⟨w.heap.size + 1 + 1, 0, none⟩ (.slice a1 l.length c1)).setCell ⟨w.heap.size + 1 + 1, 1, none⟩ (.int .i64 mk)).setCell ⟨w.heap.size + 1 + 1, 2, none⟩ (.int .i64 lt)).setCell ⟨w.heap.size + 1 + 1, 3, none⟩ (.int .i64 ov))) :=
              ⟨a1, c1, rfl, row_keep4 TO.out T2.out _ _ _ _, below_set4 TB.out (by omega) _ _ _ _⟩
            go_wp2
            exact bodyPost_ret (v := .tuple #[.agg #[.slice a1 l.length c1, .int .i64 mk, .int .i64 lt, .int .i64 ov], .int .i64 3]) (by simp [results, Try.results10, go_sem, qr]) rfl HP.out
        · rw [addR_no4 (show isEv k y t v = false by simp [isEv, hk])]
          clear hS hZ hR hG
          go_enter Try.func10, Try.ntmps10
          go_wp2_with fail
          refine (specCopy_any a _ c mk lt ov l _ _ HN.out rfl (by simp; omega) hlen).mono ?_
          rintro e w1 ⟨a1, c1, rfl, ho, hb⟩
          have s1 := hb.size
          simp only [World.size_alloc] at s1
          have T0 := Lib.hid ((TT.out.a.below hb).alloc (.cells #[.slice a1 l.length c1, .int .i64 mk, .int .i64 lt, .int .i64 ov] 30))
          have T1 := Lib.hid ((TT.out.b.below hb).alloc (.cells #[.slice a1 l.length c1, .int .i64 mk, .int .i64 lt, .int .i64 ov] 30))
          have T2 := Lib.hid ((TT.out.c.below hb).alloc (.cells #[.slice a1 l.length c1, .int .i64 mk, .int .i64 lt, .int .i64 ov] 30))
          have TN := Lib.hid (Blk.new w1 30 #[.slice a1 l.length c1, .int .i64 mk, .int .i64 lt, .int .i64 ov])
          have TO := Lib.hid ((owns_less ho (show w.heap.size ≤ _ by simp; omega)).alloc (.cells #[.slice a1 l.length c1, .int .i64 mk, .int .i64 lt, .int .i64 ov] 30))
          have TB := Lib.hid ((TT.out.bel.trans (hb.mono (by simp; omega))).alloc (by omega) (.cells #[.slice a1 l.length c1, .int .i64 mk, .int .i64 lt, .int .i64 ov] 30))
          have TA := Lib.hid ((HN.out.below (hb.mono (by simp; omega))).below ((Below.refl hi w1).alloc (by omega) (.cells #[.slice a1 l.length c1, .int .i64 mk, .int .i64 lt, .int .i64 ov] 30)))
          clear ho hb
          have q0 := T0.out.cell
          have qf := T1.out.cell
          have qr := T2.out.cell
          have qn := TN.out.cell
          have fr := T2.out.frozen
          have fn := TN.out.frozen
          go_wp2_with fail
          refine (HOK.out _ TA.out (by simp; omega)).mono ?_
          rintro e w2 ⟨rfl, hb⟩
          have T0 := Lib.hid (T0.out.below hb)
          have T1 := Lib.hid (T1.out.below hb)
          have T2 := Lib.hid (T2.out.below hb)
          have TN := Lib.hid (TN.out.below hb)
          have TO := Lib.hid (owns_below TO.out hb)
          have TB := Lib.hid (TB.out.trans (hb.mono TB.out.size))
          have s2 := hb.size
          simp only [World.size_alloc] at s2
          clear hb
          clear q0 qf qr qn fr fn
          have q0 := T0.out.cell
          have qf := T1.out.cell
          have qr := T2.out.cell
          have qn := TN.out.cell
          have fr := T2.out.frozen
          have fn := TN.out.frozen
          have HP : Hid (FreshShardI ⟨l, lt, ov, 3⟩ mk w (.returned (.tuple #[.agg #[.slice a1 l.length c1, .int .i64 mk, .int .i64 lt, .int .i64 ov], .int .i64 3])) ((((w2.setCell ⟨w.heap.size + 1 + 1, 0, none⟩ (.slice a1 l.length c1)).setCell ⟨w.heap.size + 1 + 1, 1, none⟩ (.int .i64 mk)).setCell ⟨w.heap.size + 1 + 1, 2, none⟩ (.int .i64 lt)).setCell ⟨w.heap.size + 1 + 1, 3, none⟩ (.int .i64 ov))) :=
            ⟨a1, c1, rfl, row_keep4 TO.out T2.out _ _ _ _, below_set4 TB.out (by omega) _ _ _ _⟩
          go_wp2_with fail
          refine (CZ.out _).mono ?_
          rintro e w' ⟨rfl, rfl⟩
          go_wp2_with fail
          refine (CR.out _).mono ?_
          rintro e w' ⟨rfl, rfl⟩
          go_wp2
          exact bodyPost_ret (v := .tuple #[.agg #[.slice a1 l.length c1, .int .i64 mk, .int .i64 lt, .int .i64 ov], .int .i64 3]) (by simp [results, Try.results10, go_sem, qr]) rfl HP.out
end Go.Proofs.Ytnnpppdgkbmieaa
