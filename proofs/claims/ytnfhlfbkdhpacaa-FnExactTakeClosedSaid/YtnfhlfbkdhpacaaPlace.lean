/- Contracts of chapter 5: slices.BinarySearchFunc over aggs, and placeOf. -/
import Derived.Test.YtnfhlfbkdhpacaaPlainPlace
import Derived.Test.YtnfhlfbkdhpacaaHeld3
import Derived.Deep.QuietTactic
import Derived.BigQuiet
namespace Go.Proofs.Ytnfhlfbkdhpacaa
open Go.RowKit

theorem cmpA_q (S T : Ag) (w : World) : Calls Try.prog 37 #[agV S, agV T] w fun e w' => e = .returned (.int .i64 (cmpA S T)) ∧ Below w.heap.size w w' := cmpA_x S.win S.key S.cnt S.sum S.mn S.mx T.win T.key T.cnt T.sum T.mn T.mx w
set_option maxHeartbeats 4000000 in
set_option maxRecDepth 100000 in
theorem search_x (a : Option Addr) (n c : Nat) (l : List Ag) (v0 v1 v2 v3 v4 v5 : Int) (hi : Nat) (w : World) (hr : Ags w hi a c l) (hn : n = l.length) (hB : hi ≤ w.heap.size) (ho : okUp l l.length) (hlen : l.length ≤ 1048576) :
    Calls Try.prog 43 #[.slice a n c, (.agg #[.int .i64 v0, .int .i64 v1, .int .i64 v2, .int .i64 v3, .int .i64 v4, .int .i64 v5]), .func (.func 37) #[] #[]] w fun e w' =>
      e = .returned (.tuple #[.int .i64 (placeN l ⟨v0, v1, v2, v3, v4, v5⟩ : Nat), .bool (foundB l ⟨v0, v1, v2, v3, v4, v5⟩)]) ∧ Below w.heap.size w w' := by
  subst hn
  have hc1 := hr.cap
  have hc2 := hr.big
  have B1 := Lib.hid ((Below.refl w.heap.size w).alloc (Nat.le_refl _) (.cells #[.int .i64 v0, .int .i64 v1, .int .i64 v2, .int .i64 v3, .int .i64 v4, .int .i64 v5] 37))
  have K0 := Lib.hid (Blk.new w 37 #[.int .i64 v0, .int .i64 v1, .int .i64 v2, .int .i64 v3, .int .i64 v4, .int .i64 v5])
  have HR := Lib.hid (hr.below (B1.out.mono hB))
  have HM := Lib.hid (fun (i j : Nat) (h1 : i ≤ j) (h2 : j < l.length) => okUp_mono ho (S := ⟨v0, v1, v2, v3, v4, v5⟩) h1 h2)
  have HP := Lib.hid (fun (m : Nat) h1 h2 h3 => placeN_eq (l := l) (S := ⟨v0, v1, v2, v3, v4, v5⟩) (n := m) h1 h2 h3)
  clear hr ho
  go_enter Try.func43, Try.ntmps43
  go_wp2
  go_loopw [9, 10] (fun x y wr => ∃ lo hi : Nat, x = .int .i64 lo ∧ y = .int .i64 hi ∧ lo ≤ hi ∧ hi ≤ l.length ∧ Hid (∀ t, t < lo → cmpA (ael l t) ⟨v0, v1, v2, v3, v4, v5⟩ < 0) ∧ Hid (∀ t, hi ≤ t → t < l.length → 0 ≤ cmpA (ael l t) ⟨v0, v1, v2, v3, v4, v5⟩) ∧ Below (w.alloc (.cells #[.int .i64 v0, .int .i64 v1, .int .i64 v2, .int .i64 v3, .int .i64 v4, .int .i64 v5] 37)).heap.size (w.alloc (.cells #[.int .i64 v0, .int .i64 v1, .int .i64 v2, .int .i64 v3, .int .i64 v4, .int .i64 v5] 37)) wr) (fun x y _ => (intOf y).toNat - (intOf x).toNat)
  case atStart => exact ⟨0, l.length, rfl, rfl, Nat.zero_le _, Nat.le_refl _, fun t ht => absurd ht (by omega), fun t h1 h2 => absurd h1 (by omega), Below.refl _ _⟩
  case round =>
    obtain ⟨lo, hi', rfl, rfl, hlh, hhl, hlo, hhi, hb⟩ := hrel
    have hsz := hb.size
    rw [World.size_alloc] at hsz
    have HB := Lib.hid (B1.out.trans (hb.mono (by simp)))
    have HBB := Lib.hid hb
    have KS := Lib.hid (K0.out.below hb)
    have HG := Lib.hid (HR.out.below (hb.mono (by simp; omega)))
    have HLO := Lib.hid hlo.out
    have HHI := Lib.hid hhi.out
    clear hb hlo hhi
    by_cases hlt : lo < hi'
    · obtain ⟨m, hm⟩ : ∃ m, m = (lo + hi') / 2 := ⟨_, rfl⟩
      have hm1 : lo ≤ m := by omega
      have hm2 : m < hi' := by omega
      have hml : m < l.length := by omega
      have hsum : ((lo : Int) + (hi' : Int)) / 2 = (m : Int) := by omega
      have hml' : (m : Int) < (l.length : Int) := by omega
      have hlt' : (lo : Int) < (hi' : Int) := by omega
      clear hm
      obtain ⟨b, off, rfl, hbh, hcell⟩ := Ags.six HG.out (by omega)
      obtain ⟨q0, q1, q2, q3, q4, q5⟩ := hcell m hml
      have CE : Hid (∀ W', Below wr.heap.size wr W' → W'.cell? ⟨b, off + m * 6, none⟩ = some (.int .i64 (ael l m).win) ∧ W'.cell? ⟨b, off + m * 6 + 1, none⟩ = some (.int .i64 (ael l m).key) ∧ W'.cell? ⟨b, off + m * 6 + 2, none⟩ = some (.int .i64 (ael l m).cnt) ∧ W'.cell? ⟨b, off + m * 6 + 3, none⟩ = some (.int .i64 (ael l m).sum) ∧ W'.cell? ⟨b, off + m * 6 + 4, none⟩ = some (.int .i64 (ael l m).mn) ∧ W'.cell? ⟨b, off + m * 6 + 5, none⟩ = some (.int .i64 (ael l m).mx)) := Lib.hid (fun W' h => by
        obtain ⟨b', off', he, _, hc'⟩ := Ags.six (HG.out.below (h.mono (by omega))) (by omega)
        injection he with he
        injection he with e1 e2
        subst e1 e2
        exact hc' m hml)
      have HS1 : Hid (cmpA (ael l m) ⟨v0, v1, v2, v3, v4, v5⟩ < 0 → ∀ t, t < m + 1 → cmpA (ael l t) ⟨v0, v1, v2, v3, v4, v5⟩ < 0) := Lib.hid (fun h t ht => HM.out t m (by omega) hml h)
      have HS2 : Hid (0 ≤ cmpA (ael l m) ⟨v0, v1, v2, v3, v4, v5⟩ → ∀ t, m ≤ t → t < l.length → 0 ≤ cmpA (ael l t) ⟨v0, v1, v2, v3, v4, v5⟩) := Lib.hid (fun h t h1 h2 => by by_cases h3 : cmpA (ael l t) ⟨v0, v1, v2, v3, v4, v5⟩ < 0; (have := HM.out m t h1 h2 h3; omega); omega)
      clear hcell
      generalize ael l m = S at q0 q1 q2 q3 q4 q5 CE HS1 HS2
      obtain ⟨u0, u1, u2, u3, u4, u5⟩ := S
      simp only at q0 q1 q2 q3 q4 q5 CE
      have CM := Lib.hid (fun W => cmpA_x u0 u1 u2 u3 u4 u5 v0 v1 v2 v3 v4 v5 W)
      have hX : (cmpA ⟨u0, u1, u2, u3, u4, u5⟩ ⟨v0, v1, v2, v3, v4, v5⟩ < 0) ∨ 0 ≤ cmpA ⟨u0, u1, u2, u3, u4, u5⟩ ⟨v0, v1, v2, v3, v4, v5⟩ := by omega
      generalize cmpA ⟨u0, u1, u2, u3, u4, u5⟩ ⟨v0, v1, v2, v3, v4, v5⟩ = X at CM HS1 HS2 hX
      have hs := HB.out.size
      have hs2 : w.heap.size + 1 ≤ wr.heap.size := by omega
      obtain ⟨q0, q1, q2, q3, q4, q5⟩ := CE.out wr.drew ((Below.refl _ _).drew)
      have t0 : wr.drew.cell? ⟨w.heap.size, 0, none⟩ = some (.int .i64 v0) := KS.out.drew.cell 0
      have t1 : wr.drew.cell? ⟨w.heap.size, 1, none⟩ = some (.int .i64 v1) := KS.out.drew.cell 1
      have t2 : wr.drew.cell? ⟨w.heap.size, 2, none⟩ = some (.int .i64 v2) := KS.out.drew.cell 2
      have t3 : wr.drew.cell? ⟨w.heap.size, 3, none⟩ = some (.int .i64 v3) := KS.out.drew.cell 3
      have t4 : wr.drew.cell? ⟨w.heap.size, 4, none⟩ = some (.int .i64 v4) := KS.out.drew.cell 4
      have t5 : wr.drew.cell? ⟨w.heap.size, 5, none⟩ = some (.int .i64 v5) := KS.out.drew.cell 5
      rcases hX with hX | hX
      · have hX1 : ¬ 0 ≤ X := by omega
        have H9 := Lib.hid (HS1.out hX)
        go_wp2_with fail
        go_region_held3 (fun W => W.cell? ⟨b, off + m * 6, none⟩ = some (.int .i64 u0) ∧ W.cell? ⟨b, off + m * 6 + 1, none⟩ = some (.int .i64 u1) ∧ W.cell? ⟨b, off + m * 6 + 2, none⟩ = some (.int .i64 u2) ∧ W.cell? ⟨b, off + m * 6 + 3, none⟩ = some (.int .i64 u3) ∧ W.cell? ⟨b, off + m * 6 + 4, none⟩ = some (.int .i64 u4) ∧ W.cell? ⟨b, off + m * 6 + 5, none⟩ = some (.int .i64 u5) ∧ W.cell? ⟨w.heap.size, 0, none⟩ = some (.int .i64 v0) ∧ W.cell? ⟨w.heap.size, 1, none⟩ = some (.int .i64 v1) ∧ W.cell? ⟨w.heap.size, 2, none⟩ = some (.int .i64 v2) ∧ W.cell? ⟨w.heap.size, 3, none⟩ = some (.int .i64 v3) ∧ W.cell? ⟨w.heap.size, 4, none⟩ = some (.int .i64 v4) ∧ W.cell? ⟨w.heap.size, 5, none⟩ = some (.int .i64 v5))
          (exact ⟨q0, q1, q2, q3, q4, q5, t0, t1, t2, t3, t4, t5⟩)
          (first | (go_at_call 37; refine (CM.out _).mono ?_; rintro e w2 ⟨rfl, hb⟩; have KS := Lib.hid (KS.out.drew.below hb); have HB := Lib.hid (HB.out.drew.trans (hb.mono hs)); have HBB := Lib.hid (HBB.out.drew.trans (hb.mono (by rw [World.size_alloc]; exact hs2))); obtain ⟨q0, q1, q2, q3, q4, q5⟩ := CE.out w2 ((Below.refl _ _).drew.trans hb); have t0 : w2.cell? ⟨w.heap.size, 0, none⟩ = some (.int .i64 v0) := KS.out.cell 0; have t1 : w2.cell? ⟨w.heap.size, 1, none⟩ = some (.int .i64 v1) := KS.out.cell 1; have t2 : w2.cell? ⟨w.heap.size, 2, none⟩ = some (.int .i64 v2) := KS.out.cell 2; have t3 : w2.cell? ⟨w.heap.size, 3, none⟩ = some (.int .i64 v3) := KS.out.cell 3; have t4 : w2.cell? ⟨w.heap.size, 4, none⟩ = some (.int .i64 v4) := KS.out.cell 4; have t5 : w2.cell? ⟨w.heap.size, 5, none⟩ = some (.int .i64 v5) := KS.out.cell 5; clear hb))
        all_goals
          clear q0 q1 q2 q3 q4 q5 t0 t1 t2 t3 t4 t5
          go_wp2
          go_roundw
          case rel => exact ⟨m + 1, hi', by go_num, rfl, by omega, hhl, H9, HHI, HBB.out⟩
          case measure => simp [intOf]; omega
      · have hX1 : ¬ X < 0 := by omega
        have H9 := Lib.hid (HS2.out hX)
        go_wp2_with fail
        go_region_held3 (fun W => W.cell? ⟨b, off + m * 6, none⟩ = some (.int .i64 u0) ∧ W.cell? ⟨b, off + m * 6 + 1, none⟩ = some (.int .i64 u1) ∧ W.cell? ⟨b, off + m * 6 + 2, none⟩ = some (.int .i64 u2) ∧ W.cell? ⟨b, off + m * 6 + 3, none⟩ = some (.int .i64 u3) ∧ W.cell? ⟨b, off + m * 6 + 4, none⟩ = some (.int .i64 u4) ∧ W.cell? ⟨b, off + m * 6 + 5, none⟩ = some (.int .i64 u5) ∧ W.cell? ⟨w.heap.size, 0, none⟩ = some (.int .i64 v0) ∧ W.cell? ⟨w.heap.size, 1, none⟩ = some (.int .i64 v1) ∧ W.cell? ⟨w.heap.size, 2, none⟩ = some (.int .i64 v2) ∧ W.cell? ⟨w.heap.size, 3, none⟩ = some (.int .i64 v3) ∧ W.cell? ⟨w.heap.size, 4, none⟩ = some (.int .i64 v4) ∧ W.cell? ⟨w.heap.size, 5, none⟩ = some (.int .i64 v5))
          (exact ⟨q0, q1, q2, q3, q4, q5, t0, t1, t2, t3, t4, t5⟩)
          (first | (go_at_call 37; refine (CM.out _).mono ?_; rintro e w2 ⟨rfl, hb⟩; have KS := Lib.hid (KS.out.drew.below hb); have HB := Lib.hid (HB.out.drew.trans (hb.mono hs)); have HBB := Lib.hid (HBB.out.drew.trans (hb.mono (by rw [World.size_alloc]; exact hs2))); obtain ⟨q0, q1, q2, q3, q4, q5⟩ := CE.out w2 ((Below.refl _ _).drew.trans hb); have t0 : w2.cell? ⟨w.heap.size, 0, none⟩ = some (.int .i64 v0) := KS.out.cell 0; have t1 : w2.cell? ⟨w.heap.size, 1, none⟩ = some (.int .i64 v1) := KS.out.cell 1; have t2 : w2.cell? ⟨w.heap.size, 2, none⟩ = some (.int .i64 v2) := KS.out.cell 2; have t3 : w2.cell? ⟨w.heap.size, 3, none⟩ = some (.int .i64 v3) := KS.out.cell 3; have t4 : w2.cell? ⟨w.heap.size, 4, none⟩ = some (.int .i64 v4) := KS.out.cell 4; have t5 : w2.cell? ⟨w.heap.size, 5, none⟩ = some (.int .i64 v5) := KS.out.cell 5; clear hb))
        all_goals
          clear q0 q1 q2 q3 q4 q5 t0 t1 t2 t3 t4 t5
          go_wp2
          go_roundw
          case rel => exact ⟨lo, m, rfl, rfl, hm1, by omega, HLO, H9, HBB.out⟩
          case measure => simp [intOf]; omega
    · obtain rfl : lo = hi' := by omega
      have hs := HB.out.size
      have hs2 : w.heap.size + 1 ≤ wr.heap.size := by omega
      by_cases hend : lo < l.length
      · have HN := Lib.hid (HP.out lo hhl HLO.out (fun _ => HHI.out lo (Nat.le_refl _) hend))
        obtain ⟨b, off, rfl, hbh, hcell⟩ := Ags.six HG.out (by omega)
        have CE : Hid (∀ W', Below wr.heap.size wr W' → W'.cell? ⟨b, off + lo * 6, none⟩ = some (.int .i64 (ael l lo).win) ∧ W'.cell? ⟨b, off + lo * 6 + 1, none⟩ = some (.int .i64 (ael l lo).key) ∧ W'.cell? ⟨b, off + lo * 6 + 2, none⟩ = some (.int .i64 (ael l lo).cnt) ∧ W'.cell? ⟨b, off + lo * 6 + 3, none⟩ = some (.int .i64 (ael l lo).sum) ∧ W'.cell? ⟨b, off + lo * 6 + 4, none⟩ = some (.int .i64 (ael l lo).mn) ∧ W'.cell? ⟨b, off + lo * 6 + 5, none⟩ = some (.int .i64 (ael l lo).mx)) := Lib.hid (fun W' h => by
          obtain ⟨b', off', he, _, hc'⟩ := Ags.six (HG.out.below (h.mono (by omega))) (by omega)
          injection he with he
          injection he with e1 e2
          subst e1 e2
          exact hc' lo hend)
        have HF : Hid (foundB l ⟨v0, v1, v2, v3, v4, v5⟩ = decide (cmpA (ael l lo) ⟨v0, v1, v2, v3, v4, v5⟩ = 0)) := Lib.hid (by unfold foundB; rw [HN.out]; simp [hend])
        have hend' : (lo : Int) < (l.length : Int) := by omega
        clear hcell
        generalize ael l lo = S at CE HF
        obtain ⟨u0, u1, u2, u3, u4, u5⟩ := S
        simp only at CE
        have CM := Lib.hid (fun W => cmpA_x u0 u1 u2 u3 u4 u5 v0 v1 v2 v3 v4 v5 W)
        generalize cmpA ⟨u0, u1, u2, u3, u4, u5⟩ ⟨v0, v1, v2, v3, v4, v5⟩ = X at CM HF
        obtain ⟨q0, q1, q2, q3, q4, q5⟩ := CE.out wr.drew ((Below.refl _ _).drew)
        have t0 : wr.drew.cell? ⟨w.heap.size, 0, none⟩ = some (.int .i64 v0) := KS.out.drew.cell 0
        have t1 : wr.drew.cell? ⟨w.heap.size, 1, none⟩ = some (.int .i64 v1) := KS.out.drew.cell 1
        have t2 : wr.drew.cell? ⟨w.heap.size, 2, none⟩ = some (.int .i64 v2) := KS.out.drew.cell 2
        have t3 : wr.drew.cell? ⟨w.heap.size, 3, none⟩ = some (.int .i64 v3) := KS.out.drew.cell 3
        have t4 : wr.drew.cell? ⟨w.heap.size, 4, none⟩ = some (.int .i64 v4) := KS.out.drew.cell 4
        have t5 : wr.drew.cell? ⟨w.heap.size, 5, none⟩ = some (.int .i64 v5) := KS.out.drew.cell 5
        go_wp2_with fail
        go_region_held3 (fun W => W.cell? ⟨b, off + lo * 6, none⟩ = some (.int .i64 u0) ∧ W.cell? ⟨b, off + lo * 6 + 1, none⟩ = some (.int .i64 u1) ∧ W.cell? ⟨b, off + lo * 6 + 2, none⟩ = some (.int .i64 u2) ∧ W.cell? ⟨b, off + lo * 6 + 3, none⟩ = some (.int .i64 u3) ∧ W.cell? ⟨b, off + lo * 6 + 4, none⟩ = some (.int .i64 u4) ∧ W.cell? ⟨b, off + lo * 6 + 5, none⟩ = some (.int .i64 u5) ∧ W.cell? ⟨w.heap.size, 0, none⟩ = some (.int .i64 v0) ∧ W.cell? ⟨w.heap.size, 1, none⟩ = some (.int .i64 v1) ∧ W.cell? ⟨w.heap.size, 2, none⟩ = some (.int .i64 v2) ∧ W.cell? ⟨w.heap.size, 3, none⟩ = some (.int .i64 v3) ∧ W.cell? ⟨w.heap.size, 4, none⟩ = some (.int .i64 v4) ∧ W.cell? ⟨w.heap.size, 5, none⟩ = some (.int .i64 v5))
          (exact ⟨q0, q1, q2, q3, q4, q5, t0, t1, t2, t3, t4, t5⟩)
          (first | (go_at_call 37; refine (CM.out _).mono ?_; rintro e w2 ⟨rfl, hb⟩; have KS := Lib.hid (KS.out.drew.below hb); have HB := Lib.hid (HB.out.drew.trans (hb.mono hs)); have HBB := Lib.hid (HBB.out.drew.trans (hb.mono (by rw [World.size_alloc]; exact hs2))); obtain ⟨q0, q1, q2, q3, q4, q5⟩ := CE.out w2 ((Below.refl _ _).drew.trans hb); have t0 : w2.cell? ⟨w.heap.size, 0, none⟩ = some (.int .i64 v0) := KS.out.cell 0; have t1 : w2.cell? ⟨w.heap.size, 1, none⟩ = some (.int .i64 v1) := KS.out.cell 1; have t2 : w2.cell? ⟨w.heap.size, 2, none⟩ = some (.int .i64 v2) := KS.out.cell 2; have t3 : w2.cell? ⟨w.heap.size, 3, none⟩ = some (.int .i64 v3) := KS.out.cell 3; have t4 : w2.cell? ⟨w.heap.size, 4, none⟩ = some (.int .i64 v4) := KS.out.cell 4; have t5 : w2.cell? ⟨w.heap.size, 5, none⟩ = some (.int .i64 v5) := KS.out.cell 5; clear hb))
        all_goals
          clear q0 q1 q2 q3 q4 q5 t0 t1 t2 t3 t4 t5
          go_wp2
          go_ret2
          exact ⟨by rw [HN.out, HF.out]; rfl, HB.out⟩
      · have HN := Lib.hid (HP.out lo hhl HLO.out (fun h => absurd h hend))
        have HF : Hid (foundB l ⟨v0, v1, v2, v3, v4, v5⟩ = false) := Lib.hid (by unfold foundB; rw [HN.out]; simp [hend])
        have hd : decide ((lo : Int) < (l.length : Int)) = false := by simp; omega
        obtain rfl : lo = l.length := by omega
        go_wp2_with fail
        go_quiet (fail)
        all_goals
          go_wp2
          go_ret2
          exact ⟨by rw [HN.out, HF.out]; rfl, below_drewN HB.out _⟩
set_option maxHeartbeats 2000000 in
set_option maxRecDepth 100000 in
theorem placeOf_x (a : Option Addr) (n c : Nat) (mk lt ov : Int) (l : List Ag) (v0 v1 v2 v3 v4 v5 : Int) (hi : Nat) (w : World) (hr : Ags w hi a c l) (hn : n = l.length) (hB : hi ≤ w.heap.size) (ho : okUp l l.length) (hlen : l.length ≤ 1048576) :
    Calls Try.prog 28 #[.agg #[.slice a n c, .int .i64 mk, .int .i64 lt, .int .i64 ov], (.agg #[.int .i64 v0, .int .i64 v1, .int .i64 v2, .int .i64 v3, .int .i64 v4, .int .i64 v5])] w fun e w' =>
      e = .returned (.tuple #[.int .i64 (placeN l ⟨v0, v1, v2, v3, v4, v5⟩ : Nat), .bool (foundB l ⟨v0, v1, v2, v3, v4, v5⟩)]) ∧ Below w.heap.size w w' := by
  subst hn
  have bx := boxed2 w 29 37 #[.slice a l.length c, .int .i64 mk, .int .i64 lt, .int .i64 ov] #[.int .i64 v0, .int .i64 v1, .int .i64 v2, .int .i64 v3, .int .i64 v4, .int .i64 v5]
  have BB := Lib.hid bx.2.2.2
  have HR := Lib.hid (hr.below (bx.2.2.2.mono hB))
  have CS := Lib.hid (fun (W : World) (h : Ags W hi a c l) (h2 : hi ≤ W.heap.size) => search_x a l.length c l v0 v1 v2 v3 v4 v5 hi W h rfl h2 ho hlen)
  clear bx hr ho
  generalize placeN l ⟨v0, v1, v2, v3, v4, v5⟩ = N at CS
  generalize foundB l ⟨v0, v1, v2, v3, v4, v5⟩ = F at CS
  go_enter Try.func28, Try.ntmps28
  go_wp2_with fail
  refine (CS.out _ HR.out (by simp; omega)).mono ?_
  rintro e w1 ⟨rfl, hb⟩
  have B1 := Lib.hid (BB.out.trans (hb.mono (by simp; omega)))
  clear hb
  go_wp2
  go_ret2
  exact ⟨rfl, B1.out⟩
end Go.Proofs.Ytnfhlfbkdhpacaa
