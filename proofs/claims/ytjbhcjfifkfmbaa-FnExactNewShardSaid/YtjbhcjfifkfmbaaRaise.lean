/- Contracts of chapter 5: RaiseMark and NewShard, on impl's and on spec's side. (made by tools/mkraise.py) -/
import Derived.Test.YtjbhcjfifkfmbaaShardOk
import Derived.Test.YtjbhcjfifkfmbaaClone2
namespace Go.Proofs.Ytjbhcjfifkfmbaa
open Go.RowKit

/-- A shard and whether, in memory of the call's own. -/
def FreshShardB (l : List Ag) (mk lt ov : Int) (ok : Bool) (w : World) (e : Ending) (w' : World) : Prop :=
  ∃ a c, e = .returned (.tuple #[.agg #[.slice a l.length c, .int .i64 mk, .int .i64 lt, .int .i64 ov], .bool ok]) ∧ w'.ownsRow w.heap.size 25 6 (.slice a l.length c) l.length (flatA l) ∧ Below w.heap.size w w'
theorem row_keep {W : World} {lo n g : Nat} {v : Value} {xs : List Value} {cs : Array Value} (h : W.ownsRow lo 25 6 v n xs) (hb : Blk W g 37 cs) (i : Nat) (u : Value) : (W.setCell ⟨g, i, none⟩ u).ownsRow lo 25 6 v n xs ∧ Blk (W.setCell ⟨g, i, none⟩ u) g 37 (cs.setIfInBounds i u) :=
  ⟨h.kept (grown_setCell _ _ _ _) (.inr (own_blk_ne h hb (by decide)).symm), hb.put_ i u⟩
theorem row_keep4 {W : World} {lo n g : Nat} {v : Value} {xs : List Value} {cs : Array Value} (h : W.ownsRow lo 25 6 v n xs) (hb : Blk W g 37 cs) (a b c d : Value) : ((((W.setCell ⟨g, 0, none⟩ a).setCell ⟨g, 1, none⟩ b).setCell ⟨g, 2, none⟩ c).setCell ⟨g, 3, none⟩ d).ownsRow lo 25 6 v n xs := by
  have e0 := row_keep h hb 0 a
  have e1 := row_keep e0.1 e0.2 1 b
  have e2 := row_keep e1.1 e1.2 2 c
  exact (row_keep e2.1 e2.2 3 d).1
theorem below_set4 {lo n : Nat} {w w1 : World} (hb : Below lo w w1) (hn : lo ≤ n) (a b c d : Value) : Below lo w ((((w1.setCell ⟨n, 0, none⟩ a).setCell ⟨n, 1, none⟩ b).setCell ⟨n, 2, none⟩ c).setCell ⟨n, 3, none⟩ d) :=
  (((hb.setCell (p := ⟨n, 0, none⟩) hn a).setCell (p := ⟨n, 1, none⟩) hn b).setCell (p := ⟨n, 2, none⟩) hn c).setCell (p := ⟨n, 3, none⟩) hn d
noncomputable def raiseOk (l : List Ag) (mk lt ov m : Int) : Bool := sokB l mk lt ov && (inB m (-1) 1000000 && decide (mk < m))
noncomputable def raiseM (l : List Ag) (mk lt ov m : Int) : Int := if raiseOk l mk lt ov m = true then m else mk
section
variable {l : List Ag} {mk lt ov m : Int}
theorem raise_no1 (h : sokB l mk lt ov = false) : raiseOk l mk lt ov m = false ∧ raiseM l mk lt ov m = mk := by simp [raiseM, raiseOk, h]
theorem raise_no2 (h : inB m (-1) 1000000 = false) : raiseOk l mk lt ov m = false ∧ raiseM l mk lt ov m = mk := by simp [raiseM, raiseOk, h]
theorem raise_no3 (h : m ≤ mk) : raiseOk l mk lt ov m = false ∧ raiseM l mk lt ov m = mk := by
  have h' : ¬ mk < m := by omega
  simp [raiseM, raiseOk, h']
theorem raise_yes (h : sokB l mk lt ov = true) (h2 : inB m (-1) 1000000 = true) (h3 : mk < m) : raiseOk l mk lt ov m = true ∧ raiseM l mk lt ov m = m := by simp [raiseM, raiseOk, h, h2, h3]
end

set_option maxHeartbeats 4000000 in
set_option maxRecDepth 100000 in
theorem implRaise_any (a : Option Addr) (n c : Nat) (mk lt ov m : Int) (l : List Ag) (hi : Nat) (w : World) (hr : Ags w hi a c l) (hn : n = l.length) (hB : hi ≤ w.heap.size) (hlen : l.length ≤ 1048576) :
    Calls Try.prog 33 #[.agg #[.slice a n c, .int .i64 mk, .int .i64 lt, .int .i64 ov], .int .i64 m] w (FreshShardB l (raiseM l mk lt ov m) lt ov (raiseOk l mk lt ov m) w) := by
  subst hn
  have b1 := (Below.refl w.heap.size w).alloc (Nat.le_refl _) (.cells #[.slice a l.length c, .int .i64 mk, .int .i64 lt, .int .i64 ov] 37)
  have b2 := b1.alloc (by simp) (.cells #[.slice none 0 0, .int .i64 0, .int .i64 0, .int .i64 0] 37)
  have HN := Lib.hid (hr.below (b2.mono hB))
  have k1 := Blk.new (w.alloc (.cells #[.slice a l.length c, .int .i64 mk, .int .i64 lt, .int .i64 ov] 37)) 37 #[.slice none 0 0, .int .i64 0, .int .i64 0, .int .i64 0]
  rw [World.size_alloc] at k1
  have K0 := Lib.hid ((Blk.new w 37 #[.slice a l.length c, .int .i64 mk, .int .i64 lt, .int .i64 ov]).alloc (.cells #[.slice none 0 0, .int .i64 0, .int .i64 0, .int .i64 0] 37))
  have K1 := Lib.hid k1
  have B2 := Lib.hid b2
  have HOK := Lib.hid (fun (W : World) (h : Ags W hi a c l) (h2 : hi ≤ W.heap.size) => implShardOk_any a l.length c mk lt ov l hi W h rfl h2)
  clear hr b1 b2 k1
  cases hS : sokB l mk lt ov with
  | false =>
    rw [(raise_no1 hS).1, (raise_no1 hS).2]
    rw [hS] at HOK
    clear hS
    go_enter Try.func33, Try.ntmps33
    go_wp2_with fail
    refine (copied_any a _ c mk lt ov l _ _ HN.out rfl (by simp; omega) hlen).mono ?_
    rintro e w1 ⟨a1, c1, rfl, ho, hb⟩
    have s1 := hb.size
    simp only [World.size_alloc] at s1
    have T0 := Lib.hid ((K0.out.below hb).alloc (.cells #[.slice a1 l.length c1, .int .i64 mk, .int .i64 lt, .int .i64 ov] 37))
    have T1 := Lib.hid ((K1.out.below hb).alloc (.cells #[.slice a1 l.length c1, .int .i64 mk, .int .i64 lt, .int .i64 ov] 37))
    have TN := Lib.hid (Blk.new w1 37 #[.slice a1 l.length c1, .int .i64 mk, .int .i64 lt, .int .i64 ov])
    have TO := Lib.hid ((owns_less ho (show w.heap.size ≤ _ by simp; omega)).alloc (.cells #[.slice a1 l.length c1, .int .i64 mk, .int .i64 lt, .int .i64 ov] 37))
    have TB := Lib.hid ((B2.out.trans (hb.mono (by simp; omega))).alloc (by omega) (.cells #[.slice a1 l.length c1, .int .i64 mk, .int .i64 lt, .int .i64 ov] 37))
    have TA := Lib.hid ((HN.out.below (hb.mono (by simp; omega))).below ((Below.refl hi w1).alloc (by omega) (.cells #[.slice a1 l.length c1, .int .i64 mk, .int .i64 lt, .int .i64 ov] 37)))
    have q0 := T0.out.cell
    clear ho hb
    go_wp2_with fail
    refine (HOK.out _ TA.out (by simp; omega)).mono ?_
    rintro e w2 ⟨rfl, hb⟩
    have U0 := Lib.hid (T0.out.below hb)
    have U1 := Lib.hid (T1.out.below hb)
    have UN := Lib.hid (TN.out.below hb)
    have UO := Lib.hid (owns_below TO.out hb)
    have UB := Lib.hid (TB.out.trans (hb.mono (by simp; omega)))
    have s2 := hb.size
    simp only [World.size_alloc] at s2
    clear hb q0
    have q0 := U0.out.cell
    have q1 := U1.out.cell
    have qn := UN.out.cell
    have f1 := U1.out.frozen
    have fn := UN.out.frozen
    have HP : Hid (FreshShardB l mk lt ov false w (.returned (.tuple #[.agg #[.slice a1 l.length c1, .int .i64 mk, .int .i64 lt, .int .i64 ov], .bool false])) ((((w2.setCell ⟨w.heap.size + 1, 0, none⟩ (.slice a1 l.length c1)).setCell ⟨w.heap.size + 1, 1, none⟩ (.int .i64 mk)).setCell ⟨w.heap.size + 1, 2, none⟩ (.int .i64 lt)).setCell ⟨w.heap.size + 1, 3, none⟩ (.int .i64 ov))) :=
      ⟨a1, c1, rfl, row_keep4 UO.out U1.out _ _ _ _, below_set4 UB.out (by omega) _ _ _ _⟩
    go_wp2
    exact bodyPost_ret (v := .tuple #[.agg #[.slice a1 l.length c1, .int .i64 mk, .int .i64 lt, .int .i64 ov], .bool false]) (by simp [results, Try.results33, go_sem, q1]) rfl HP.out
  | true =>
    rw [hS] at HOK
    cases hM : inB m (-1) 1000000 with
    | false =>
      rw [(raise_no2 hM).1, (raise_no2 hM).2]
      have HM := Lib.hid (fun W => iMark_any m W)
      rw [hM] at HM
      clear hS hM
      go_enter Try.func33, Try.ntmps33
      go_wp2_with fail
      refine (copied_any a _ c mk lt ov l _ _ HN.out rfl (by simp; omega) hlen).mono ?_
      rintro e w1 ⟨a1, c1, rfl, ho, hb⟩
      have s1 := hb.size
      simp only [World.size_alloc] at s1
      have T0 := Lib.hid ((K0.out.below hb).alloc (.cells #[.slice a1 l.length c1, .int .i64 mk, .int .i64 lt, .int .i64 ov] 37))
      have T1 := Lib.hid ((K1.out.below hb).alloc (.cells #[.slice a1 l.length c1, .int .i64 mk, .int .i64 lt, .int .i64 ov] 37))
      have TN := Lib.hid (Blk.new w1 37 #[.slice a1 l.length c1, .int .i64 mk, .int .i64 lt, .int .i64 ov])
      have TO := Lib.hid ((owns_less ho (show w.heap.size ≤ _ by simp; omega)).alloc (.cells #[.slice a1 l.length c1, .int .i64 mk, .int .i64 lt, .int .i64 ov] 37))
      have TB := Lib.hid ((B2.out.trans (hb.mono (by simp; omega))).alloc (by omega) (.cells #[.slice a1 l.length c1, .int .i64 mk, .int .i64 lt, .int .i64 ov] 37))
      have TA := Lib.hid ((HN.out.below (hb.mono (by simp; omega))).below ((Below.refl hi w1).alloc (by omega) (.cells #[.slice a1 l.length c1, .int .i64 mk, .int .i64 lt, .int .i64 ov] 37)))
      have q0 := T0.out.cell
      clear ho hb
      go_wp2_with fail
      refine (HOK.out _ TA.out (by simp; omega)).mono ?_
      rintro e w2 ⟨rfl, hb⟩
      have U0 := Lib.hid (T0.out.below hb)
      have U1 := Lib.hid (T1.out.below hb)
      have UN := Lib.hid (TN.out.below hb)
      have UO := Lib.hid (owns_below TO.out hb)
      have UB := Lib.hid (TB.out.trans (hb.mono (by simp; omega)))
      have s2 := hb.size
      simp only [World.size_alloc] at s2
      clear hb q0
      have q0 := U0.out.cell
      have q1 := U1.out.cell
      have qn := UN.out.cell
      have f1 := U1.out.frozen
      have fn := UN.out.frozen
      have HP : Hid (FreshShardB l mk lt ov false w (.returned (.tuple #[.agg #[.slice a1 l.length c1, .int .i64 mk, .int .i64 lt, .int .i64 ov], .bool false])) ((((w2.setCell ⟨w.heap.size + 1, 0, none⟩ (.slice a1 l.length c1)).setCell ⟨w.heap.size + 1, 1, none⟩ (.int .i64 mk)).setCell ⟨w.heap.size + 1, 2, none⟩ (.int .i64 lt)).setCell ⟨w.heap.size + 1, 3, none⟩ (.int .i64 ov))) :=
        ⟨a1, c1, rfl, row_keep4 UO.out U1.out _ _ _ _, below_set4 UB.out (by omega) _ _ _ _⟩
      go_wp2_with fail
      refine (HM.out _).mono ?_
      rintro e w' ⟨rfl, rfl⟩
      go_wp2
      exact bodyPost_ret (v := .tuple #[.agg #[.slice a1 l.length c1, .int .i64 mk, .int .i64 lt, .int .i64 ov], .bool false]) (by simp [results, Try.results33, go_sem, q1]) rfl HP.out
    | true =>
      have HM := Lib.hid (fun W => iMark_any m W)
      rw [hM] at HM
      by_cases h3 : m ≤ mk
      · rw [(raise_no3 h3).1, (raise_no3 h3).2]
        clear hS hM
        go_enter Try.func33, Try.ntmps33
        go_wp2_with fail
        refine (copied_any a _ c mk lt ov l _ _ HN.out rfl (by simp; omega) hlen).mono ?_
        rintro e w1 ⟨a1, c1, rfl, ho, hb⟩
        have s1 := hb.size
        simp only [World.size_alloc] at s1
        have T0 := Lib.hid ((K0.out.below hb).alloc (.cells #[.slice a1 l.length c1, .int .i64 mk, .int .i64 lt, .int .i64 ov] 37))
        have T1 := Lib.hid ((K1.out.below hb).alloc (.cells #[.slice a1 l.length c1, .int .i64 mk, .int .i64 lt, .int .i64 ov] 37))
        have TN := Lib.hid (Blk.new w1 37 #[.slice a1 l.length c1, .int .i64 mk, .int .i64 lt, .int .i64 ov])
        have TO := Lib.hid ((owns_less ho (show w.heap.size ≤ _ by simp; omega)).alloc (.cells #[.slice a1 l.length c1, .int .i64 mk, .int .i64 lt, .int .i64 ov] 37))
        have TB := Lib.hid ((B2.out.trans (hb.mono (by simp; omega))).alloc (by omega) (.cells #[.slice a1 l.length c1, .int .i64 mk, .int .i64 lt, .int .i64 ov] 37))
        have TA := Lib.hid ((HN.out.below (hb.mono (by simp; omega))).below ((Below.refl hi w1).alloc (by omega) (.cells #[.slice a1 l.length c1, .int .i64 mk, .int .i64 lt, .int .i64 ov] 37)))
        have q0 := T0.out.cell
        clear ho hb
        go_wp2_with fail
        refine (HOK.out _ TA.out (by simp; omega)).mono ?_
        rintro e w2 ⟨rfl, hb⟩
        have U0 := Lib.hid (T0.out.below hb)
        have U1 := Lib.hid (T1.out.below hb)
        have UN := Lib.hid (TN.out.below hb)
        have UO := Lib.hid (owns_below TO.out hb)
        have UB := Lib.hid (TB.out.trans (hb.mono (by simp; omega)))
        have s2 := hb.size
        simp only [World.size_alloc] at s2
        clear hb q0
        have q0 := U0.out.cell
        have q1 := U1.out.cell
        have qn := UN.out.cell
        have f1 := U1.out.frozen
        have fn := UN.out.frozen
        have HP : Hid (FreshShardB l mk lt ov false w (.returned (.tuple #[.agg #[.slice a1 l.length c1, .int .i64 mk, .int .i64 lt, .int .i64 ov], .bool false])) ((((w2.setCell ⟨w.heap.size + 1, 0, none⟩ (.slice a1 l.length c1)).setCell ⟨w.heap.size + 1, 1, none⟩ (.int .i64 mk)).setCell ⟨w.heap.size + 1, 2, none⟩ (.int .i64 lt)).setCell ⟨w.heap.size + 1, 3, none⟩ (.int .i64 ov))) :=
          ⟨a1, c1, rfl, row_keep4 UO.out U1.out _ _ _ _, below_set4 UB.out (by omega) _ _ _ _⟩
        go_wp2_with fail
        refine (HM.out _).mono ?_
        rintro e w' ⟨rfl, rfl⟩
        go_wp2
        exact bodyPost_ret (v := .tuple #[.agg #[.slice a1 l.length c1, .int .i64 mk, .int .i64 lt, .int .i64 ov], .bool false]) (by simp [results, Try.results33, go_sem, q1]) rfl HP.out
      · have h3' : mk < m := by omega
        rw [(raise_yes hS hM h3').1, (raise_yes hS hM h3').2]
        clear hS hM
        go_enter Try.func33, Try.ntmps33
        go_wp2_with fail
        refine (copied_any a _ c mk lt ov l _ _ HN.out rfl (by simp; omega) hlen).mono ?_
        rintro e w1 ⟨a1, c1, rfl, ho, hb⟩
        have s1 := hb.size
        simp only [World.size_alloc] at s1
        have T0 := Lib.hid ((K0.out.below hb).alloc (.cells #[.slice a1 l.length c1, .int .i64 mk, .int .i64 lt, .int .i64 ov] 37))
        have T1 := Lib.hid ((K1.out.below hb).alloc (.cells #[.slice a1 l.length c1, .int .i64 mk, .int .i64 lt, .int .i64 ov] 37))
        have TN := Lib.hid (Blk.new w1 37 #[.slice a1 l.length c1, .int .i64 mk, .int .i64 lt, .int .i64 ov])
        have TO := Lib.hid ((owns_less ho (show w.heap.size ≤ _ by simp; omega)).alloc (.cells #[.slice a1 l.length c1, .int .i64 mk, .int .i64 lt, .int .i64 ov] 37))
        have TB := Lib.hid ((B2.out.trans (hb.mono (by simp; omega))).alloc (by omega) (.cells #[.slice a1 l.length c1, .int .i64 mk, .int .i64 lt, .int .i64 ov] 37))
        have TA := Lib.hid ((HN.out.below (hb.mono (by simp; omega))).below ((Below.refl hi w1).alloc (by omega) (.cells #[.slice a1 l.length c1, .int .i64 mk, .int .i64 lt, .int .i64 ov] 37)))
        have q0 := T0.out.cell
        clear ho hb
        go_wp2_with fail
        refine (HOK.out _ TA.out (by simp; omega)).mono ?_
        rintro e w2 ⟨rfl, hb⟩
        have U0 := Lib.hid (T0.out.below hb)
        have U1 := Lib.hid (T1.out.below hb)
        have UN := Lib.hid (TN.out.below hb)
        have UO := Lib.hid (owns_below TO.out hb)
        have UB := Lib.hid (TB.out.trans (hb.mono (by simp; omega)))
        have s2 := hb.size
        simp only [World.size_alloc] at s2
        clear hb q0
        have q0 := U0.out.cell
        have q1 := U1.out.cell
        have qn := UN.out.cell
        have f1 := U1.out.frozen
        have fn := UN.out.frozen
        have hne : w1.heap.size ≠ w.heap.size + 1 := by omega
        have HP : Hid (FreshShardB l m lt ov true w (.returned (.tuple #[.agg #[.slice a1 l.length c1, .int .i64 m, .int .i64 lt, .int .i64 ov], .bool true])) (((((w2.setCell ⟨w1.heap.size, 1, none⟩ (.int .i64 m)).setCell ⟨w.heap.size + 1, 0, none⟩ (.slice a1 l.length c1)).setCell ⟨w.heap.size + 1, 1, none⟩ (.int .i64 m)).setCell ⟨w.heap.size + 1, 2, none⟩ (.int .i64 lt)).setCell ⟨w.heap.size + 1, 3, none⟩ (.int .i64 ov))) := by
          have e0 := row_keep UO.out UN.out 1 (.int .i64 m)
          exact ⟨a1, c1, rfl, row_keep4 e0.1 (U1.out.far_ (p := ⟨w1.heap.size, 1, none⟩) (fun h => hne h.symm) _) _ _ _ _, below_set4 (UB.out.setCell (p := ⟨w1.heap.size, 1, none⟩) (show w.heap.size ≤ w1.heap.size by omega) _) (by omega) _ _ _ _⟩
        go_wp2_with fail
        refine (HM.out _).mono ?_
        rintro e w' ⟨rfl, rfl⟩
        go_wp2
        exact bodyPost_ret (v := .tuple #[.agg #[.slice a1 l.length c1, .int .i64 m, .int .i64 lt, .int .i64 ov], .bool true]) (by simp [results, Try.results33, go_sem, q1]) rfl HP.out
theorem implNewShard_any (w : World) : Calls Try.prog 26 #[] w (FreshShard [] (-1) 0 0 w) := by
  have HP : Hid (∀ cs, FreshShard [] (-1) 0 0 w (.returned (.agg #[.slice none 0 0, .int .i64 (-1), .int .i64 0, .int .i64 0])) (w.alloc (.cells cs 37))) := Lib.hid (fun cs => ⟨none, 0, rfl, by simpa [flatA, flatR] using World.ownsRow_nil _ _ _ _, (Below.refl _ _).alloc (Nat.le_refl _) _⟩)
  go_enter Try.func26, Try.ntmps26
  go_wp2
  exact bodyPost_ret (v := .agg #[.slice none 0 0, .int .i64 (-1), .int .i64 0, .int .i64 0]) (by simp [results, Try.results26, go_sem]) rfl (HP.out _)
set_option maxHeartbeats 4000000 in
set_option maxRecDepth 100000 in
theorem specRaise_any (a : Option Addr) (n c : Nat) (mk lt ov m : Int) (l : List Ag) (hi : Nat) (w : World) (hr : Ags w hi a c l) (hn : n = l.length) (hB : hi ≤ w.heap.size) (hlen : l.length ≤ 1048576) :
    Calls Try.prog 32 #[.agg #[.slice a n c, .int .i64 mk, .int .i64 lt, .int .i64 ov], .int .i64 m] w (FreshShardB l (raiseM l mk lt ov m) lt ov (raiseOk l mk lt ov m) w) := by
  subst hn
  have b1 := (Below.refl w.heap.size w).alloc (Nat.le_refl _) (.cells #[.slice a l.length c, .int .i64 mk, .int .i64 lt, .int .i64 ov] 37)
  have b2 := b1.alloc (by simp) (.cells #[.slice none 0 0, .int .i64 0, .int .i64 0, .int .i64 0] 37)
  have HN := Lib.hid (hr.below (b2.mono hB))
  have k1 := Blk.new (w.alloc (.cells #[.slice a l.length c, .int .i64 mk, .int .i64 lt, .int .i64 ov] 37)) 37 #[.slice none 0 0, .int .i64 0, .int .i64 0, .int .i64 0]
  rw [World.size_alloc] at k1
  have K0 := Lib.hid ((Blk.new w 37 #[.slice a l.length c, .int .i64 mk, .int .i64 lt, .int .i64 ov]).alloc (.cells #[.slice none 0 0, .int .i64 0, .int .i64 0, .int .i64 0] 37))
  have K1 := Lib.hid k1
  have B2 := Lib.hid b2
  have HOK := Lib.hid (fun (W : World) (h : Ags W hi a c l) (h2 : hi ≤ W.heap.size) => specShardOk_any a l.length c mk lt ov l hi W h rfl h2)
  clear hr b1 b2 k1
  cases hS : sokB l mk lt ov with
  | false =>
    rw [(raise_no1 hS).1, (raise_no1 hS).2]
    rw [hS] at HOK
    clear hS
    go_enter Try.func32, Try.ntmps32
    go_wp2_with fail
    refine (specCopy_any a _ c mk lt ov l _ _ HN.out rfl (by simp; omega) hlen).mono ?_
    rintro e w1 ⟨a1, c1, rfl, ho, hb⟩
    have s1 := hb.size
    simp only [World.size_alloc] at s1
    have T0 := Lib.hid ((K0.out.below hb).alloc (.cells #[.slice a1 l.length c1, .int .i64 mk, .int .i64 lt, .int .i64 ov] 37))
    have T1 := Lib.hid ((K1.out.below hb).alloc (.cells #[.slice a1 l.length c1, .int .i64 mk, .int .i64 lt, .int .i64 ov] 37))
    have TN := Lib.hid (Blk.new w1 37 #[.slice a1 l.length c1, .int .i64 mk, .int .i64 lt, .int .i64 ov])
    have TO := Lib.hid ((owns_less ho (show w.heap.size ≤ _ by simp; omega)).alloc (.cells #[.slice a1 l.length c1, .int .i64 mk, .int .i64 lt, .int .i64 ov] 37))
    have TB := Lib.hid ((B2.out.trans (hb.mono (by simp; omega))).alloc (by omega) (.cells #[.slice a1 l.length c1, .int .i64 mk, .int .i64 lt, .int .i64 ov] 37))
    have TA := Lib.hid ((HN.out.below (hb.mono (by simp; omega))).below ((Below.refl hi w1).alloc (by omega) (.cells #[.slice a1 l.length c1, .int .i64 mk, .int .i64 lt, .int .i64 ov] 37)))
    have q0 := T0.out.cell
    clear ho hb
    go_wp2_with fail
    refine (HOK.out _ TA.out (by simp; omega)).mono ?_
    rintro e w2 ⟨rfl, hb⟩
    have U0 := Lib.hid (T0.out.below hb)
    have U1 := Lib.hid (T1.out.below hb)
    have UN := Lib.hid (TN.out.below hb)
    have UO := Lib.hid (owns_below TO.out hb)
    have UB := Lib.hid (TB.out.trans (hb.mono (by simp; omega)))
    have s2 := hb.size
    simp only [World.size_alloc] at s2
    clear hb q0
    have q0 := U0.out.cell
    have q1 := U1.out.cell
    have qn := UN.out.cell
    have f1 := U1.out.frozen
    have fn := UN.out.frozen
    have HP : Hid (FreshShardB l mk lt ov false w (.returned (.tuple #[.agg #[.slice a1 l.length c1, .int .i64 mk, .int .i64 lt, .int .i64 ov], .bool false])) ((((w2.setCell ⟨w.heap.size + 1, 0, none⟩ (.slice a1 l.length c1)).setCell ⟨w.heap.size + 1, 1, none⟩ (.int .i64 mk)).setCell ⟨w.heap.size + 1, 2, none⟩ (.int .i64 lt)).setCell ⟨w.heap.size + 1, 3, none⟩ (.int .i64 ov))) :=
      ⟨a1, c1, rfl, row_keep4 UO.out U1.out _ _ _ _, below_set4 UB.out (by omega) _ _ _ _⟩
    go_wp2
    exact bodyPost_ret (v := .tuple #[.agg #[.slice a1 l.length c1, .int .i64 mk, .int .i64 lt, .int .i64 ov], .bool false]) (by simp [results, Try.results32, go_sem, q1]) rfl HP.out
  | true =>
    rw [hS] at HOK
    cases hM : inB m (-1) 1000000 with
    | false =>
      rw [(raise_no2 hM).1, (raise_no2 hM).2]
      have HM := Lib.hid (fun W => sMark_any m W)
      rw [hM] at HM
      clear hS hM
      go_enter Try.func32, Try.ntmps32
      go_wp2_with fail
      refine (specCopy_any a _ c mk lt ov l _ _ HN.out rfl (by simp; omega) hlen).mono ?_
      rintro e w1 ⟨a1, c1, rfl, ho, hb⟩
      have s1 := hb.size
      simp only [World.size_alloc] at s1
      have T0 := Lib.hid ((K0.out.below hb).alloc (.cells #[.slice a1 l.length c1, .int .i64 mk, .int .i64 lt, .int .i64 ov] 37))
      have T1 := Lib.hid ((K1.out.below hb).alloc (.cells #[.slice a1 l.length c1, .int .i64 mk, .int .i64 lt, .int .i64 ov] 37))
      have TN := Lib.hid (Blk.new w1 37 #[.slice a1 l.length c1, .int .i64 mk, .int .i64 lt, .int .i64 ov])
      have TO := Lib.hid ((owns_less ho (show w.heap.size ≤ _ by simp; omega)).alloc (.cells #[.slice a1 l.length c1, .int .i64 mk, .int .i64 lt, .int .i64 ov] 37))
      have TB := Lib.hid ((B2.out.trans (hb.mono (by simp; omega))).alloc (by omega) (.cells #[.slice a1 l.length c1, .int .i64 mk, .int .i64 lt, .int .i64 ov] 37))
      have TA := Lib.hid ((HN.out.below (hb.mono (by simp; omega))).below ((Below.refl hi w1).alloc (by omega) (.cells #[.slice a1 l.length c1, .int .i64 mk, .int .i64 lt, .int .i64 ov] 37)))
      have q0 := T0.out.cell
      clear ho hb
      go_wp2_with fail
      refine (HOK.out _ TA.out (by simp; omega)).mono ?_
      rintro e w2 ⟨rfl, hb⟩
      have U0 := Lib.hid (T0.out.below hb)
      have U1 := Lib.hid (T1.out.below hb)
      have UN := Lib.hid (TN.out.below hb)
      have UO := Lib.hid (owns_below TO.out hb)
      have UB := Lib.hid (TB.out.trans (hb.mono (by simp; omega)))
      have s2 := hb.size
      simp only [World.size_alloc] at s2
      clear hb q0
      have q0 := U0.out.cell
      have q1 := U1.out.cell
      have qn := UN.out.cell
      have f1 := U1.out.frozen
      have fn := UN.out.frozen
      have HP : Hid (FreshShardB l mk lt ov false w (.returned (.tuple #[.agg #[.slice a1 l.length c1, .int .i64 mk, .int .i64 lt, .int .i64 ov], .bool false])) ((((w2.setCell ⟨w.heap.size + 1, 0, none⟩ (.slice a1 l.length c1)).setCell ⟨w.heap.size + 1, 1, none⟩ (.int .i64 mk)).setCell ⟨w.heap.size + 1, 2, none⟩ (.int .i64 lt)).setCell ⟨w.heap.size + 1, 3, none⟩ (.int .i64 ov))) :=
        ⟨a1, c1, rfl, row_keep4 UO.out U1.out _ _ _ _, below_set4 UB.out (by omega) _ _ _ _⟩
      go_wp2_with fail
      refine (HM.out _).mono ?_
      rintro e w' ⟨rfl, rfl⟩
      go_wp2
      exact bodyPost_ret (v := .tuple #[.agg #[.slice a1 l.length c1, .int .i64 mk, .int .i64 lt, .int .i64 ov], .bool false]) (by simp [results, Try.results32, go_sem, q1]) rfl HP.out
    | true =>
      have HM := Lib.hid (fun W => sMark_any m W)
      rw [hM] at HM
      by_cases h3 : m ≤ mk
      · rw [(raise_no3 h3).1, (raise_no3 h3).2]
        clear hS hM
        go_enter Try.func32, Try.ntmps32
        go_wp2_with fail
        refine (specCopy_any a _ c mk lt ov l _ _ HN.out rfl (by simp; omega) hlen).mono ?_
        rintro e w1 ⟨a1, c1, rfl, ho, hb⟩
        have s1 := hb.size
        simp only [World.size_alloc] at s1
        have T0 := Lib.hid ((K0.out.below hb).alloc (.cells #[.slice a1 l.length c1, .int .i64 mk, .int .i64 lt, .int .i64 ov] 37))
        have T1 := Lib.hid ((K1.out.below hb).alloc (.cells #[.slice a1 l.length c1, .int .i64 mk, .int .i64 lt, .int .i64 ov] 37))
        have TN := Lib.hid (Blk.new w1 37 #[.slice a1 l.length c1, .int .i64 mk, .int .i64 lt, .int .i64 ov])
        have TO := Lib.hid ((owns_less ho (show w.heap.size ≤ _ by simp; omega)).alloc (.cells #[.slice a1 l.length c1, .int .i64 mk, .int .i64 lt, .int .i64 ov] 37))
        have TB := Lib.hid ((B2.out.trans (hb.mono (by simp; omega))).alloc (by omega) (.cells #[.slice a1 l.length c1, .int .i64 mk, .int .i64 lt, .int .i64 ov] 37))
        have TA := Lib.hid ((HN.out.below (hb.mono (by simp; omega))).below ((Below.refl hi w1).alloc (by omega) (.cells #[.slice a1 l.length c1, .int .i64 mk, .int .i64 lt, .int .i64 ov] 37)))
        have q0 := T0.out.cell
        clear ho hb
        go_wp2_with fail
        refine (HOK.out _ TA.out (by simp; omega)).mono ?_
        rintro e w2 ⟨rfl, hb⟩
        have U0 := Lib.hid (T0.out.below hb)
        have U1 := Lib.hid (T1.out.below hb)
        have UN := Lib.hid (TN.out.below hb)
        have UO := Lib.hid (owns_below TO.out hb)
        have UB := Lib.hid (TB.out.trans (hb.mono (by simp; omega)))
        have s2 := hb.size
        simp only [World.size_alloc] at s2
        clear hb q0
        have q0 := U0.out.cell
        have q1 := U1.out.cell
        have qn := UN.out.cell
        have f1 := U1.out.frozen
        have fn := UN.out.frozen
        have HP : Hid (FreshShardB l mk lt ov false w (.returned (.tuple #[.agg #[.slice a1 l.length c1, .int .i64 mk, .int .i64 lt, .int .i64 ov], .bool false])) ((((w2.setCell ⟨w.heap.size + 1, 0, none⟩ (.slice a1 l.length c1)).setCell ⟨w.heap.size + 1, 1, none⟩ (.int .i64 mk)).setCell ⟨w.heap.size + 1, 2, none⟩ (.int .i64 lt)).setCell ⟨w.heap.size + 1, 3, none⟩ (.int .i64 ov))) :=
          ⟨a1, c1, rfl, row_keep4 UO.out U1.out _ _ _ _, below_set4 UB.out (by omega) _ _ _ _⟩
        go_wp2_with fail
        refine (HM.out _).mono ?_
        rintro e w' ⟨rfl, rfl⟩
        go_wp2
        exact bodyPost_ret (v := .tuple #[.agg #[.slice a1 l.length c1, .int .i64 mk, .int .i64 lt, .int .i64 ov], .bool false]) (by simp [results, Try.results32, go_sem, q1]) rfl HP.out
      · have h3' : mk < m := by omega
        rw [(raise_yes hS hM h3').1, (raise_yes hS hM h3').2]
        clear hS hM
        go_enter Try.func32, Try.ntmps32
        go_wp2_with fail
        refine (specCopy_any a _ c mk lt ov l _ _ HN.out rfl (by simp; omega) hlen).mono ?_
        rintro e w1 ⟨a1, c1, rfl, ho, hb⟩
        have s1 := hb.size
        simp only [World.size_alloc] at s1
        have T0 := Lib.hid ((K0.out.below hb).alloc (.cells #[.slice a1 l.length c1, .int .i64 mk, .int .i64 lt, .int .i64 ov] 37))
        have T1 := Lib.hid ((K1.out.below hb).alloc (.cells #[.slice a1 l.length c1, .int .i64 mk, .int .i64 lt, .int .i64 ov] 37))
        have TN := Lib.hid (Blk.new w1 37 #[.slice a1 l.length c1, .int .i64 mk, .int .i64 lt, .int .i64 ov])
        have TO := Lib.hid ((owns_less ho (show w.heap.size ≤ _ by simp; omega)).alloc (.cells #[.slice a1 l.length c1, .int .i64 mk, .int .i64 lt, .int .i64 ov] 37))
        have TB := Lib.hid ((B2.out.trans (hb.mono (by simp; omega))).alloc (by omega) (.cells #[.slice a1 l.length c1, .int .i64 mk, .int .i64 lt, .int .i64 ov] 37))
        have TA := Lib.hid ((HN.out.below (hb.mono (by simp; omega))).below ((Below.refl hi w1).alloc (by omega) (.cells #[.slice a1 l.length c1, .int .i64 mk, .int .i64 lt, .int .i64 ov] 37)))
        have q0 := T0.out.cell
        clear ho hb
        go_wp2_with fail
        refine (HOK.out _ TA.out (by simp; omega)).mono ?_
        rintro e w2 ⟨rfl, hb⟩
        have U0 := Lib.hid (T0.out.below hb)
        have U1 := Lib.hid (T1.out.below hb)
        have UN := Lib.hid (TN.out.below hb)
        have UO := Lib.hid (owns_below TO.out hb)
        have UB := Lib.hid (TB.out.trans (hb.mono (by simp; omega)))
        have s2 := hb.size
        simp only [World.size_alloc] at s2
        clear hb q0
        have q0 := U0.out.cell
        have q1 := U1.out.cell
        have qn := UN.out.cell
        have f1 := U1.out.frozen
        have fn := UN.out.frozen
        have hne : w1.heap.size ≠ w.heap.size + 1 := by omega
        have HP : Hid (FreshShardB l m lt ov true w (.returned (.tuple #[.agg #[.slice a1 l.length c1, .int .i64 m, .int .i64 lt, .int .i64 ov], .bool true])) (((((w2.setCell ⟨w1.heap.size, 1, none⟩ (.int .i64 m)).setCell ⟨w.heap.size + 1, 0, none⟩ (.slice a1 l.length c1)).setCell ⟨w.heap.size + 1, 1, none⟩ (.int .i64 m)).setCell ⟨w.heap.size + 1, 2, none⟩ (.int .i64 lt)).setCell ⟨w.heap.size + 1, 3, none⟩ (.int .i64 ov))) := by
          have e0 := row_keep UO.out UN.out 1 (.int .i64 m)
          exact ⟨a1, c1, rfl, row_keep4 e0.1 (U1.out.far_ (p := ⟨w1.heap.size, 1, none⟩) (fun h => hne h.symm) _) _ _ _ _, below_set4 (UB.out.setCell (p := ⟨w1.heap.size, 1, none⟩) (show w.heap.size ≤ w1.heap.size by omega) _) (by omega) _ _ _ _⟩
        go_wp2_with fail
        refine (HM.out _).mono ?_
        rintro e w' ⟨rfl, rfl⟩
        go_wp2
        exact bodyPost_ret (v := .tuple #[.agg #[.slice a1 l.length c1, .int .i64 m, .int .i64 lt, .int .i64 ov], .bool true]) (by simp [results, Try.results32, go_sem, q1]) rfl HP.out
theorem specNewShard_any (w : World) : Calls Try.prog 25 #[] w (FreshShard [] (-1) 0 0 w) := by
  have HP : Hid (∀ cs, FreshShard [] (-1) 0 0 w (.returned (.agg #[.slice none 0 0, .int .i64 (-1), .int .i64 0, .int .i64 0])) (w.alloc (.cells cs 37))) := Lib.hid (fun cs => ⟨none, 0, rfl, by simpa [flatA, flatR] using World.ownsRow_nil _ _ _ _, (Below.refl _ _).alloc (Nat.le_refl _) _⟩)
  go_enter Try.func25, Try.ntmps25
  go_wp2
  exact bodyPost_ret (v := .agg #[.slice none 0 0, .int .i64 (-1), .int .i64 0, .int .i64 0]) (by simp [results, Try.results25, go_sem]) rfl (HP.out _)
end Go.Proofs.Ytjbhcjfifkfmbaa
