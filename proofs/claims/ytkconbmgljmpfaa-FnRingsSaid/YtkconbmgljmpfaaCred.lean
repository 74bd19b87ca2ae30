/- Contracts of chapter 3's credits: the atomic number, and what is done to it, on impl's and on spec's side. -/
import Derived.Test.YtkconbmgljmpfaaRing1
import Derived.Laws.LoneSync
namespace Go.Proofs.Ytkconbmgljmpfaa
open Go.RowKit

/-- A block behind a store into it. -/
theorem Blk.set_ {w : World} {g : Nat} {t : TypeId} {cs : Array Value} (h : Blk w g t cs) (i : Nat) (u : Value) : Blk (w.setCell ⟨g, i, none⟩ u) g t (cs.setIfInBounds i u) := by
  unfold Blk at h ⊢
  simp [World.setCell, Array.getElem?_modify, h]

theorem add64_any (g : Nat) (T : TypeId) (all x d : Int) (w : World) (hk : Blk w g T #[.int .i64 all, .int .i64 x]) (hx : -1000000 ≤ x ∧ x ≤ 1000000) (hd : -1000000 ≤ d ∧ d ≤ 1000000) :
    Calls Try.prog 75 #[.pointer (some ⟨g, 1, none⟩), .int .i64 d] w fun e w' => e = .returned (.int .i64 (x + d)) ∧ w' = w.setCell ⟨g, 1, none⟩ (.int .i64 (x + d)) := by
  have hw : IntKind.i64.wrap (x + d) = x + d := IntWalk.i64_in _ (by omega)
  have hadd := run_call_add (P := Try.prog) Try.func76 (by kernel_rfl) (by kernel_rfl) (by kernel_rfl) .i64 (by kernel_rfl) (y := d) (s := x + d) (a := ⟨g, 1, none⟩) (x := x) (w := w) (hk.cell 1) (hk.frozen 1) (by simp [go_sem, hw])
  go_enter Try.func75, Try.ntmps75
  go_wp2
  go_ret
  exact ⟨rfl, rfl⟩
theorem load64_any (g : Nat) (T : TypeId) (all x : Int) (w : World) (hk : Blk w g T #[.int .i64 all, .int .i64 x]) :
    Calls Try.prog 66 #[.pointer (some ⟨g, 1, none⟩)] w fun e w' => e = .returned (.int .i64 x) ∧ w = w' := by
  have hl := run_call_load (P := Try.prog) Try.func73 (by kernel_rfl) (by kernel_rfl) (by kernel_rfl) .i64 (by kernel_rfl) (a := ⟨g, 1, none⟩) (x := x) (w := w) (hk.cell 1)
  go_enter Try.func66, Try.ntmps66
  go_wp2
  go_ret
  exact ⟨rfl, rfl⟩
theorem store64_any (g : Nat) (T : TypeId) (all x y : Int) (w : World) (hk : Blk w g T #[.int .i64 all, .int .i64 x]) :
    Calls Try.prog 70 #[.pointer (some ⟨g, 1, none⟩), .int .i64 y] w fun e w' => e = .returned (.tuple #[]) ∧ w' = w.setCell ⟨g, 1, none⟩ (.int .i64 y) := by
  have hl := run_call_store (P := Try.prog) Try.func74 (by kernel_rfl) (by kernel_rfl) (by kernel_rfl) (by kernel_rfl) (a := ⟨g, 1, none⟩) (k := .i64) (y := y) (w := w) (hk.cell 1) (hk.frozen 1)
  go_enter Try.func70, Try.ntmps70
  go_wp2
  exact bodyPost_end (v := .tuple #[]) (by simp [results, Try.results70, go_sem]) rfl ⟨rfl, rfl⟩

/-- One taken, or none there; one brought back, or all at home. -/
def spendX (x : Int) : Int := if 0 < x then x - 1 else x
def backX (all x : Int) : Int := if x < all then x + 1 else x
theorem spendX_yes {x : Int} (h : 0 < x) : spendX x = x - 1 := if_pos h
theorem spendX_no {x : Int} (h : ¬ 0 < x) : spendX x = x := if_neg h
theorem backX_yes {all x : Int} (h : x < all) : backX all x = x + 1 := if_pos h
theorem backX_no {all x : Int} (h : ¬ x < all) : backX all x = x := if_neg h

/-- What an op on a credit does: of all that was there only its block turns. -/
def CredPost (g : Nat) (b : Bool) (all x : Int) (w : World) (e : Ending) (w' : World) : Prop :=
  e = .returned (.bool b) ∧ Blk w' g 89 #[.int .i64 all, .int .i64 x] ∧ w.grownBy w' (some g)

theorem spend_any (g : Nat) (all x : Int) (w : World) (hk : Blk w g 89 #[.int .i64 all, .int .i64 x]) (h0 : 0 ≤ x) (h1 : x ≤ 20) :
    Calls Try.prog 72 #[.pointer (some ⟨g, 0, none⟩)] w (CredPost g (decide (0 < x)) all (spendX x) w) := by
  have hq := hk.cell
  have hl := hk.lt
  have HK := Lib.hid hk
  by_cases hx : 0 < x
  · rw [spendX_yes hx, decide_eq_true hx]
    have HP : Hid (CredPost g true all (x - 1) w (.returned (.bool true)) (w.setCell ⟨g, 1, none⟩ (.int .i64 (x + -1)))) :=
      ⟨rfl, by rw [show x - 1 = x + -1 by omega]; exact hk.set_ 1 _, grown_setCell _ _ _ _⟩
    clear hk
    go_enter Try.func72, Try.ntmps72
    go_wp2_with fail
    refine (add64_any g _ all x (-1) _ HK.out (by omega) (by omega)).mono ?_
    rintro e w' ⟨rfl, rfl⟩
    go_wp2
    go_ret
    exact HP.out
  · obtain rfl : x = 0 := by omega
    rw [spendX_no hx, decide_eq_false hx]
    have HK1 : Hid (Blk (w.setCell ⟨g, 1, none⟩ (.int .i64 (0 + -1))) g 89 #[.int .i64 all, .int .i64 (-1)]) := hk.set_ 1 _
    have HP : Hid (CredPost g false all 0 w (.returned (.bool false)) ((w.setCell ⟨g, 1, none⟩ (.int .i64 (0 + -1))).setCell ⟨g, 1, none⟩ (.int .i64 (-1 + 1)))) :=
      ⟨rfl, HK1.out.set_ 1 _, grown_trans (grown_setCell _ _ _ _) (grown_setCell _ _ _ _)⟩
    clear hk
    go_enter Try.func72, Try.ntmps72
    go_wp2_with fail
    refine (add64_any g _ all 0 (-1) _ HK.out (by omega) (by omega)).mono ?_
    rintro e w' ⟨rfl, rfl⟩
    have hl1 := HK1.out.lt
    have hq1 := HK1.out.cell
    clear hq
    go_wp2_with fail
    refine (add64_any g _ all (-1) 1 _ HK1.out (by omega) (by omega)).mono ?_
    rintro e w' ⟨rfl, rfl⟩
    go_wp2
    go_ret
    exact HP.out
set_option maxHeartbeats 1000000 in
theorem back_any (g : Nat) (all x : Int) (w : World) (hk : Blk w g 89 #[.int .i64 all, .int .i64 x]) (h0 : 0 ≤ x) (h1 : x ≤ all) (h2 : all ≤ 40) :
    Calls Try.prog 71 #[.pointer (some ⟨g, 0, none⟩)] w (CredPost g (decide (x < all)) all (backX all x) w) := by
  have hq := hk.cell
  have hl := hk.lt
  have HK := Lib.hid hk
  have HK1 : Hid (Blk (w.drew.setCell ⟨g, 1, none⟩ (.int .i64 (x + 1))) g 89 #[.int .i64 all, .int .i64 (x + 1)]) := (hk.drew).set_ 1 _
  have HG1 : Hid (w.grownBy (w.drew.setCell ⟨g, 1, none⟩ (.int .i64 (x + 1))) (some g)) := grown_trans (grown_drewN w 1 _) (grown_setCell _ _ _ _)
  by_cases hx : x < all
  · rw [backX_yes hx, decide_eq_true hx]
    have HP : Hid (CredPost g true all (x + 1) w (.returned (.bool true)) (w.drew.setCell ⟨g, 1, none⟩ (.int .i64 (x + 1)))) := ⟨rfl, HK1.out, HG1.out⟩
    clear hk
    go_enter Try.func71, Try.ntmps71
    go_wp2_with fail
    go_region_with (go_at_call 75; refine (add64_any g _ all x 1 _ HK.out.drew (by omega) (by omega)).mono ?_; rintro e w' ⟨rfl, rfl⟩; have hl1 := HK1.out.lt; have hq1 := HK1.out.cell)
    all_goals
      go_wp2
      go_ret
      exact HP.out
  · obtain rfl : x = all := by omega
    rw [backX_no hx, decide_eq_false hx]
    have HP : Hid (CredPost g false x x w (.returned (.bool false)) ((w.drew.setCell ⟨g, 1, none⟩ (.int .i64 (x + 1))).setCell ⟨g, 1, none⟩ (.int .i64 (x + 1 + -1)))) :=
      ⟨rfl, by have := HK1.out.set_ 1 (.int .i64 (x + 1 + -1)); rw [show x + 1 + -1 = x by omega] at this ⊢; exact this, grown_trans HG1.out (grown_setCell _ _ _ _)⟩
    clear hk
    go_enter Try.func71, Try.ntmps71
    go_wp2_with fail
    go_region_with (go_at_call 75; refine (add64_any g _ x x 1 _ HK.out.drew (by omega) (by omega)).mono ?_; rintro e w' ⟨rfl, rfl⟩; have hl1 := HK1.out.lt; have hq1 := HK1.out.cell)
    all_goals
      go_wp2_with fail
      refine (add64_any g _ x (x + 1) (-1) _ HK1.out (by omega) (by omega)).mono ?_
      rintro e w' ⟨rfl, rfl⟩
      go_wp2
      go_ret
      exact HP.out
/-- A credit behind a pointer, of the call's own. -/
def CredNew (all x : Int) (w : World) (e : Ending) (w' : World) : Prop :=
  ∃ g, e = .returned (.pointer (some ⟨g, 0, none⟩)) ∧ w.heap.size ≤ g ∧ Blk w' g 89 #[.int .i64 all, .int .i64 x] ∧ Below w.heap.size w w'
set_option maxHeartbeats 1000000 in
theorem creditsOf_any (h o : Int) (w : World) (h0 : 0 ≤ h) (h1 : h ≤ 20) (o0 : 0 ≤ o) (o1 : o ≤ 20) :
    Calls Try.prog 63 #[(.agg #[.int .i64 h, .int .i64 o])] w (CredNew (h + o) h w) := by
  have b1 := (Below.refl w.heap.size w).alloc (Nat.le_refl _) (.cells #[.int .i64 h, .int .i64 o] 30)
  have K0 := Lib.hid ((Blk.new w 30 #[.int .i64 h, .int .i64 o]).alloc (.cells #[.int .i64 (h + o), .int .i64 0] 89))
  have k1 := Blk.new (w.alloc (.cells #[.int .i64 h, .int .i64 o] 30)) 89 #[.int .i64 (h + o), .int .i64 0]
  simp only [World.size_alloc] at k1
  have K1 := Lib.hid k1
  have HP : Hid (CredNew (h + o) h w (.returned (.pointer (some ⟨w.heap.size + 1, 0, none⟩))) ((w.alloc (.cells #[.int .i64 h, .int .i64 o] 30)).alloc (.cells #[.int .i64 (h + o), .int .i64 h] 89)).drew) := by
    have k2 := Blk.new (w.alloc (.cells #[.int .i64 h, .int .i64 o] 30)) 89 #[.int .i64 (h + o), .int .i64 h]
    simp only [World.size_alloc] at k2
    exact ⟨_, rfl, by omega, k2.drew, (b1.alloc (by simp) _).drew⟩
  clear b1 k1
  go_enter Try.func63, Try.ntmps63
  go_wp2_with fail
  go_region_with (go_at_call 70; refine (store64_any _ _ (h + o) 0 h _ K1.out.drew).mono ?_; rintro e w' ⟨rfl, rfl⟩)
  all_goals
    go_wp2
    go_ret
    exact HP.out
theorem face_any (g : Nat) (all x : Int) (w : World) (hk : Blk w g 89 #[.int .i64 all, .int .i64 x]) (h0 : 0 ≤ x) (h1 : x ≤ all) (h2 : all ≤ 40) :
    Calls Try.prog 48 #[.pointer (some ⟨g, 0, none⟩)] w fun e w' => e = .returned (.agg #[.int .i64 x, .int .i64 ((all - x))]) ∧ Below w.heap.size w w' := by
  have k1 := hk.alloc (.cells #[.int .i64 0, .int .i64 0] 30)
  have hq := k1.cell
  have hl := k1.lt
  have K1 := Lib.hid k1
  have hl0 := hk.lt
  clear hk k1
  go_enter Try.func48, Try.ntmps48
  go_wp2_with fail
  refine (load64_any g _ all x _ K1.out).mono ?_
  rintro e w' ⟨rfl, rfl⟩
  go_wp2
  exact bodyPost_ret (v := (.agg #[.int .i64 x, .int .i64 ((all - x))])) (by simp [results, Try.results48, go_sem]) rfl ⟨rfl, (Below.refl _ _).alloc (Nat.le_refl _) _⟩

theorem credOk_any (h o : Int) (w : World) :
    Calls Try.prog 53 #[(.agg #[.int .i64 h, .int .i64 o])] w fun e w' => e = .returned (.bool (cOk h o)) ∧ Below w.heap.size w w' := by
  unfold cOk
  have B1 := Lib.hid ((Below.refl w.heap.size w).alloc (Nat.le_refl _) (.cells #[.int .i64 h, .int .i64 o] 30))
  cases h1 : inB h 0 20 with
  | false =>
    rw [Bool.false_and]
    go_enter Try.func53, Try.ntmps53
    go_wp2_with (go_at_call 62; refine (within_any _ _ _ _).mono ?_; rintro e w' ⟨rfl, rfl⟩)
    go_ret
    exact ⟨rfl, B1.out⟩
  | true =>
    rw [Bool.true_and]
    have hb := inB_iff.1 h1
    go_enter Try.func53, Try.ntmps53
    go_wp2_with (go_at_call 62; refine (within_any _ _ _ _).mono ?_; rintro e w' ⟨rfl, rfl⟩)
    go_ret
    exact ⟨rfl, B1.out⟩
theorem specCred_any (h o : Int) (w : World) :
    Calls Try.prog 54 #[(.agg #[.int .i64 h, .int .i64 o])] w fun e w' => e = .returned (.bool (cOk h o)) ∧ Below w.heap.size w w' := by
  unfold cOk
  have B1 := Lib.hid ((Below.refl w.heap.size w).alloc (Nat.le_refl _) (.cells #[.int .i64 h, .int .i64 o] 30))
  cases h1 : inB h 0 20 with
  | false =>
    rw [Bool.false_and]
    go_enter Try.func54, Try.ntmps54
    go_wp2_with (go_at_call 56; refine (specIn_any _ _ _ _).mono ?_; rintro e w' ⟨rfl, rfl⟩)
    go_ret
    exact ⟨rfl, B1.out⟩
  | true =>
    rw [Bool.true_and]
    have hb := inB_iff.1 h1
    go_enter Try.func54, Try.ntmps54
    go_wp2_with (go_at_call 56; refine (specIn_any _ _ _ _).mono ?_; rintro e w' ⟨rfl, rfl⟩)
    go_ret
    exact ⟨rfl, B1.out⟩

def spendH (h o : Int) : Int := if spendOk h o = true then h - 1 else h
def spendO (h o : Int) : Int := if spendOk h o = true then o + 1 else o
def backH (h o : Int) : Int := if backOk h o = true then h + 1 else h
def backO (h o : Int) : Int := if backOk h o = true then o - 1 else o
/-- A credit and whether. -/
def CredRes (h o : Int) (b : Bool) (w : World) (e : Ending) (w' : World) : Prop := e = .returned (.tuple #[(.agg #[.int .i64 h, .int .i64 o]), .bool b]) ∧ Below w.heap.size w w'
theorem spend_bad {h o : Int} (k : spendOk h o = false) : spendH h o = h ∧ spendO h o = o := by simp [spendH, spendO, k]
theorem spend_good {h o : Int} (k : spendOk h o = true) : spendH h o = h - 1 ∧ spendO h o = o + 1 := by simp [spendH, spendO, k]
theorem back_bad {h o : Int} (k : backOk h o = false) : backH h o = h ∧ backO h o = o := by simp [backH, backO, k]
theorem back_good {h o : Int} (k : backOk h o = true) : backH h o = h + 1 ∧ backO h o = o - 1 := by simp [backH, backO, k]

set_option maxHeartbeats 1000000 in
theorem specSpend_any (h o : Int) (w : World) : Calls Try.prog 42 #[(.agg #[.int .i64 h, .int .i64 o])] w (CredRes (spendH h o) (spendO h o) (spendOk h o) w) := by
  have k0 := (Blk.new w 30 #[.int .i64 h, .int .i64 o]).alloc (.cells #[.int .i64 0, .int .i64 0] 30)
  have k1 := Blk.new (w.alloc (.cells #[.int .i64 h, .int .i64 o] 30)) 30 #[.int .i64 0, .int .i64 0]
  simp only [World.size_alloc] at k1
  have B2 := Lib.hid (((Below.refl w.heap.size w).alloc (Nat.le_refl _) (.cells #[.int .i64 h, .int .i64 o] 30)).alloc (by simp) (.cells #[.int .i64 0, .int .i64 0] 30))
  have K0 := Lib.hid k0
  have K1 := Lib.hid k1
  clear k0 k1
  have HC := Lib.hid (specCred_any h o)
  have HP : Hid (∀ (a b : Int) (k : Bool) (w1 : World), Below (w.heap.size + 1 + 1) ((w.alloc (.cells #[.int .i64 h, .int .i64 o] 30)).alloc (.cells #[.int .i64 0, .int .i64 0] 30)) w1 → CredRes a b k w (.returned (.tuple #[(.agg #[.int .i64 a, .int .i64 b]), .bool k])) ((w1.setCell ⟨w.heap.size + 1, 0, none⟩ (.int .i64 a)).setCell ⟨w.heap.size + 1, 1, none⟩ (.int .i64 b))) :=
    fun a b k w1 hb => ⟨rfl, ((B2.out.trans (hb.mono (by omega))).setCell (p := ⟨w.heap.size + 1, 0, none⟩) (show w.heap.size ≤ w.heap.size + 1 by omega) _).setCell (p := ⟨w.heap.size + 1, 1, none⟩) (show w.heap.size ≤ w.heap.size + 1 by omega) _⟩
  cases hk : cOk h o with
  | false =>
    have hs : spendOk h o = false := by simp [spendOk, hk]
    rw [hs, (spend_bad hs).1, (spend_bad hs).2]
    rw [hk] at HC
    go_enter Try.func42, Try.ntmps42
    go_wp2_with fail
    refine (HC.out _).mono ?_
    rintro e w1 ⟨rfl, hb⟩
    have q0 := (K0.out.below hb).cell
    have k1 := K1.out.below hb
    have q1 := k1.cell
    have f1 := k1.frozen
    have HB := Lib.hid hb
    clear hb k1
    go_wp2
    exact bodyPost_ret (v := .tuple #[(.agg #[.int .i64 h, .int .i64 o]), .bool false]) (by simp [results, Try.results42, go_sem, q1]) rfl (HP.out h o false w1 (HB.out.mono (by simp)))
  | true =>
    obtain ⟨h0, h1, o0, o1⟩ := cOk_iff.1 hk
    rw [hk] at HC
    by_cases hz : h = 0
    · have hs : spendOk h o = false := by simp [spendOk, hz]
      rw [hs, (spend_bad hs).1, (spend_bad hs).2]
      subst hz
      go_enter Try.func42, Try.ntmps42
      go_wp2_with fail
      refine (HC.out _).mono ?_
      rintro e w1 ⟨rfl, hb⟩
      have q0 := (K0.out.below hb).cell
      have k1 := K1.out.below hb
      have q1 := k1.cell
      have f1 := k1.frozen
      have HB := Lib.hid hb
      clear hb k1
      go_wp2
      exact bodyPost_ret (v := .tuple #[(.agg #[.int .i64 0, .int .i64 o]), .bool false]) (by simp [results, Try.results42, go_sem, q1]) rfl (HP.out _ _ false w1 (HB.out.mono (by simp)))
    · have hs : spendOk h o = true := by simp [spendOk, hk]; omega
      rw [hs, (spend_good hs).1, (spend_good hs).2]
      have hz' : (h == 0) = false := by simp [hz]
      go_enter Try.func42, Try.ntmps42
      go_wp2_with fail
      refine (HC.out _).mono ?_
      rintro e w1 ⟨rfl, hb⟩
      have q0 := (K0.out.below hb).cell
      have k1 := K1.out.below hb
      have q1 := k1.cell
      have f1 := k1.frozen
      have HB := Lib.hid hb
      clear hb k1
      go_wp2
      exact bodyPost_ret (v := .tuple #[(.agg #[.int .i64 ((h - 1)), .int .i64 ((o + 1))]), .bool true]) (by simp [results, Try.results42, go_sem, q1]) rfl (HP.out _ _ true w1 (HB.out.mono (by simp)))
set_option maxHeartbeats 1000000 in
theorem specBack_any (h o : Int) (w : World) : Calls Try.prog 43 #[(.agg #[.int .i64 h, .int .i64 o])] w (CredRes (backH h o) (backO h o) (backOk h o) w) := by
  have k0 := (Blk.new w 30 #[.int .i64 h, .int .i64 o]).alloc (.cells #[.int .i64 0, .int .i64 0] 30)
  have k1 := Blk.new (w.alloc (.cells #[.int .i64 h, .int .i64 o] 30)) 30 #[.int .i64 0, .int .i64 0]
  simp only [World.size_alloc] at k1
  have B2 := Lib.hid (((Below.refl w.heap.size w).alloc (Nat.le_refl _) (.cells #[.int .i64 h, .int .i64 o] 30)).alloc (by simp) (.cells #[.int .i64 0, .int .i64 0] 30))
  have K0 := Lib.hid k0
  have K1 := Lib.hid k1
  clear k0 k1
  have HC := Lib.hid (specCred_any h o)
  have HP : Hid (∀ (a b : Int) (k : Bool) (w1 : World), Below (w.heap.size + 1 + 1) ((w.alloc (.cells #[.int .i64 h, .int .i64 o] 30)).alloc (.cells #[.int .i64 0, .int .i64 0] 30)) w1 → CredRes a b k w (.returned (.tuple #[(.agg #[.int .i64 a, .int .i64 b]), .bool k])) ((w1.setCell ⟨w.heap.size + 1, 0, none⟩ (.int .i64 a)).setCell ⟨w.heap.size + 1, 1, none⟩ (.int .i64 b))) :=
    fun a b k w1 hb => ⟨rfl, ((B2.out.trans (hb.mono (by omega))).setCell (p := ⟨w.heap.size + 1, 0, none⟩) (show w.heap.size ≤ w.heap.size + 1 by omega) _).setCell (p := ⟨w.heap.size + 1, 1, none⟩) (show w.heap.size ≤ w.heap.size + 1 by omega) _⟩
  cases hk : cOk h o with
  | false =>
    have hs : backOk h o = false := by simp [backOk, hk]
    rw [hs, (back_bad hs).1, (back_bad hs).2]
    rw [hk] at HC
    go_enter Try.func43, Try.ntmps43
    go_wp2_with fail
    refine (HC.out _).mono ?_
    rintro e w1 ⟨rfl, hb⟩
    have q0 := (K0.out.below hb).cell
    have k1 := K1.out.below hb
    have q1 := k1.cell
    have f1 := k1.frozen
    have HB := Lib.hid hb
    clear hb k1
    go_wp2
    exact bodyPost_ret (v := .tuple #[(.agg #[.int .i64 h, .int .i64 o]), .bool false]) (by simp [results, Try.results43, go_sem, q1]) rfl (HP.out h o false w1 (HB.out.mono (by simp)))
  | true =>
    obtain ⟨h0, h1, o0, o1⟩ := cOk_iff.1 hk
    rw [hk] at HC
    by_cases hz : o = 0
    · have hs : backOk h o = false := by simp [backOk, hz]
      rw [hs, (back_bad hs).1, (back_bad hs).2]
      subst hz
      go_enter Try.func43, Try.ntmps43
      go_wp2_with fail
      refine (HC.out _).mono ?_
      rintro e w1 ⟨rfl, hb⟩
      have q0 := (K0.out.below hb).cell
      have k1 := K1.out.below hb
      have q1 := k1.cell
      have f1 := k1.frozen
      have HB := Lib.hid hb
      clear hb k1
      go_wp2
      exact bodyPost_ret (v := .tuple #[(.agg #[.int .i64 h, .int .i64 0]), .bool false]) (by simp [results, Try.results43, go_sem, q1]) rfl (HP.out _ _ false w1 (HB.out.mono (by simp)))
    · have hs : backOk h o = true := by simp [backOk, hk]; omega
      rw [hs, (back_good hs).1, (back_good hs).2]
      have hz' : (o == 0) = false := by simp [hz]
      go_enter Try.func43, Try.ntmps43
      go_wp2_with fail
      refine (HC.out _).mono ?_
      rintro e w1 ⟨rfl, hb⟩
      have q0 := (K0.out.below hb).cell
      have k1 := K1.out.below hb
      have q1 := k1.cell
      have f1 := k1.frozen
      have HB := Lib.hid hb
      clear hb k1
      go_wp2
      exact bodyPost_ret (v := .tuple #[(.agg #[.int .i64 ((h + 1)), .int .i64 ((o - 1))]), .bool true]) (by simp [results, Try.results43, go_sem, q1]) rfl (HP.out _ _ true w1 (HB.out.mono (by simp)))

end Go.Proofs.Ytkconbmgljmpfaa
