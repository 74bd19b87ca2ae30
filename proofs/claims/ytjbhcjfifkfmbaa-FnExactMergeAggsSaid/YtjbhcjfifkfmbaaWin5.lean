/- Contracts of chapter 5: spec.MergeAggs with what it calls; closedAt, aggOf. (made by tools/mkwin5.py) -/
import Derived.Test.YtjbhcjfifkfmbaaWin4
namespace Go.Proofs.Ytjbhcjfifkfmbaa
open Go.RowKit

set_option maxHeartbeats 2000000 in
theorem specAhead_x (u0 u1 u2 u3 u4 u5 v0 v1 v2 v3 v4 v5 : Int) (w : World) : Calls Try.prog 54 #[(.agg #[.int .i64 u0, .int .i64 u1, .int .i64 u2, .int .i64 u3, .int .i64 u4, .int .i64 u5]), (.agg #[.int .i64 v0, .int .i64 v1, .int .i64 v2, .int .i64 v3, .int .i64 v4, .int .i64 v5])] w fun e w' => e = .returned (.bool (aheadA ⟨u0, u1, u2, u3, u4, u5⟩ ⟨v0, v1, v2, v3, v4, v5⟩)) ∧ Below w.heap.size w w' := by
  have BB := Lib.hid (boxed2 w 25 25 #[.int .i64 u0, .int .i64 u1, .int .i64 u2, .int .i64 u3, .int .i64 u4, .int .i64 u5] #[.int .i64 v0, .int .i64 v1, .int .i64 v2, .int .i64 v3, .int .i64 v4, .int .i64 v5]).2.2.2
  by_cases h0 : u0 < v0
  · rw [show aheadA ⟨u0, u1, u2, u3, u4, u5⟩ ⟨v0, v1, v2, v3, v4, v5⟩ = true by simp [aheadA, h0]]
    go_enter Try.func54, Try.ntmps54
    go_wp2
    go_ret
    exact ⟨by simp [go_sem], BB.out⟩
  · by_cases h1 : u0 = v0
    · subst h1
      by_cases h2 : u1 < v1
      · rw [show aheadA ⟨u0, u1, u2, u3, u4, u5⟩ ⟨u0, v1, v2, v3, v4, v5⟩ = true by simp [aheadA, h2]]
        go_enter Try.func54, Try.ntmps54
        go_wp2
        go_ret
        exact ⟨by simp [go_sem], BB.out⟩
      · rw [show aheadA ⟨u0, u1, u2, u3, u4, u5⟩ ⟨u0, v1, v2, v3, v4, v5⟩ = false by simp [aheadA, h2]]
        go_enter Try.func54, Try.ntmps54
        go_wp2
        go_ret
        exact ⟨by simp [go_sem], BB.out⟩
    · rw [show aheadA ⟨u0, u1, u2, u3, u4, u5⟩ ⟨v0, v1, v2, v3, v4, v5⟩ = false by simp [aheadA, h0, h1]]
      go_enter Try.func54, Try.ntmps54
      go_wp2
      go_ret
      exact ⟨by simp [go_sem], BB.out⟩
theorem cap_q (x : Int) (w : World) : Calls Try.prog 60 #[.int .i64 x] w fun e w' => e = .returned (.int .i64 (capS x)) ∧ w = w' := specCap_any x w
set_option maxHeartbeats 4000000 in
set_option maxRecDepth 100000 in
theorem specSum_x (u0 u1 u2 u3 u4 u5 v0 v1 v2 v3 v4 v5 : Int) (w : World) (b1 : -1000000000 ≤ u2 ∧ u2 ≤ 1000000000) (b2 : -1000000000 ≤ u3 ∧ u3 ≤ 1000000000) (b3 : -1000000000 ≤ v2 ∧ v2 ≤ 1000000000) (b4 : -1000000000 ≤ v3 ∧ v3 ≤ 1000000000) :
    Calls Try.prog 61 #[(.agg #[.int .i64 u0, .int .i64 u1, .int .i64 u2, .int .i64 u3, .int .i64 u4, .int .i64 u5]), (.agg #[.int .i64 v0, .int .i64 v1, .int .i64 v2, .int .i64 v3, .int .i64 v4, .int .i64 v5])] w fun e w' => e = .returned (agV (sumA ⟨u0, u1, u2, u3, u4, u5⟩ ⟨v0, v1, v2, v3, v4, v5⟩)) ∧ Below w.heap.size w w' := by
  have BB := Lib.hid (fun c d => ((three_new w 25 25 25 #[.int .i64 u0, .int .i64 u1, .int .i64 u2, .int .i64 u3, .int .i64 u4, .int .i64 u5] #[.int .i64 v0, .int .i64 v1, .int .i64 v2, .int .i64 v3, .int .i64 v4, .int .i64 v5] c).bel.alloc (by simp; omega) (.cells d 25)))
  have s2 : IntKind.i64.wrap (u2 + v2) = u2 + v2 := IntWalk.i64_in _ (by omega)
  have s3 : IntKind.i64.wrap (u3 + v3) = u3 + v3 := IntWalk.i64_in _ (by omega)
  have C2 := Lib.hid (fun W => specCap_any (u2 + v2) W)
  have C3 := Lib.hid (fun W => specCap_any (u3 + v3) W)
  rw [show agV (sumA ⟨u0, u1, u2, u3, u4, u5⟩ ⟨v0, v1, v2, v3, v4, v5⟩) = .agg #[.int .i64 u0, .int .i64 u1, .int .i64 (capS (u2 + v2)), .int .i64 (capS (u3 + v3)), .int .i64 (minI u4 v4), .int .i64 (maxI u5 v5)] from rfl]
  generalize capS (u2 + v2) = y2 at C2 ⊢
  generalize capS (u3 + v3) = y3 at C3 ⊢
  clear b1 b2 b3 b4
  by_cases h4 : v4 < u4
  · rw [show minI u4 v4 = v4 by simp [minI, h4]]
    by_cases h5 : u5 < v5
    · rw [show maxI u5 v5 = v5 by simp [maxI, h5]]
      go_enter Try.func61, Try.ntmps61
      go_wp2_with fail
      refine (C2.out _).mono ?_
      rintro e w' ⟨rfl, rfl⟩
      go_wp2_with fail
      refine (C3.out _).mono ?_
      rintro e w' ⟨rfl, rfl⟩
      go_wp2
      exact bodyPost_ret (v := .agg #[.int .i64 u0, .int .i64 u1, .int .i64 y2, .int .i64 y3, .int .i64 v4, .int .i64 v5]) (by simp [results, Try.results61, go_sem]) rfl ⟨rfl, BB.out _ _⟩
    · rw [show maxI u5 v5 = u5 by simp [maxI, h5]]
      go_enter Try.func61, Try.ntmps61
      go_wp2_with fail
      refine (C2.out _).mono ?_
      rintro e w' ⟨rfl, rfl⟩
      go_wp2_with fail
      refine (C3.out _).mono ?_
      rintro e w' ⟨rfl, rfl⟩
      go_wp2
      exact bodyPost_ret (v := .agg #[.int .i64 u0, .int .i64 u1, .int .i64 y2, .int .i64 y3, .int .i64 v4, .int .i64 u5]) (by simp [results, Try.results61, go_sem]) rfl ⟨rfl, BB.out _ _⟩
  · rw [show minI u4 v4 = u4 by simp [minI, h4]]
    by_cases h5 : u5 < v5
    · rw [show maxI u5 v5 = v5 by simp [maxI, h5]]
      go_enter Try.func61, Try.ntmps61
      go_wp2_with fail
      refine (C2.out _).mono ?_
      rintro e w' ⟨rfl, rfl⟩
      go_wp2_with fail
      refine (C3.out _).mono ?_
      rintro e w' ⟨rfl, rfl⟩
      go_wp2
      exact bodyPost_ret (v := .agg #[.int .i64 u0, .int .i64 u1, .int .i64 y2, .int .i64 y3, .int .i64 u4, .int .i64 v5]) (by simp [results, Try.results61, go_sem]) rfl ⟨rfl, BB.out _ _⟩
    · rw [show maxI u5 v5 = u5 by simp [maxI, h5]]
      go_enter Try.func61, Try.ntmps61
      go_wp2_with fail
      refine (C2.out _).mono ?_
      rintro e w' ⟨rfl, rfl⟩
      go_wp2_with fail
      refine (C3.out _).mono ?_
      rintro e w' ⟨rfl, rfl⟩
      go_wp2
      exact bodyPost_ret (v := .agg #[.int .i64 u0, .int .i64 u1, .int .i64 y2, .int .i64 y3, .int .i64 u4, .int .i64 u5]) (by simp [results, Try.results61, go_sem]) rfl ⟨rfl, BB.out _ _⟩
set_option maxHeartbeats 4000000 in
set_option maxRecDepth 100000 in
theorem specMergeAggs_x (u0 u1 u2 u3 u4 u5 v0 v1 v2 v3 v4 v5 : Int) (w : World) : Calls Try.prog 42 #[(.agg #[.int .i64 u0, .int .i64 u1, .int .i64 u2, .int .i64 u3, .int .i64 u4, .int .i64 u5]), (.agg #[.int .i64 v0, .int .i64 v1, .int .i64 v2, .int .i64 v3, .int .i64 v4, .int .i64 v5])] w fun e w' => e = .returned (.tuple #[agV (mergeA ⟨u0, u1, u2, u3, u4, u5⟩ ⟨v0, v1, v2, v3, v4, v5⟩), .bool (mergeB ⟨u0, u1, u2, u3, u4, u5⟩ ⟨v0, v1, v2, v3, v4, v5⟩)]) ∧ Below w.heap.size w w' := by
  have T0 := Lib.hid (three_new w 25 25 25 #[.int .i64 u0, .int .i64 u1, .int .i64 u2, .int .i64 u3, .int .i64 u4, .int .i64 u5] #[.int .i64 v0, .int .i64 v1, .int .i64 v2, .int .i64 v3, .int .i64 v4, .int .i64 v5] #[.int .i64 0, .int .i64 0, .int .i64 0, .int .i64 0, .int .i64 0, .int .i64 0])
  have CS := Lib.hid (fun W => specAggOk_x u0 u1 u2 u3 u4 u5 W)
  have CT := Lib.hid (fun W => specAggOk_x v0 v1 v2 v3 v4 v5 W)
  cases hS : aggOk ⟨u0, u1, u2, u3, u4, u5⟩ with
  | false =>
    rw [mergeA_no1 hS, mergeB_no1 hS, agV_zero]
    rw [hS] at CS
    clear hS CT
    go_enter Try.func42, Try.ntmps42
    go_wp2_with fail
    refine (CS.out _).mono ?_
    rintro e w1 ⟨rfl, hb1⟩
    have T1 := Lib.hid (T0.out.below hb1)
    clear hb1
    have qa1 := T1.out.a.cell
    have qb1 := T1.out.b.cell
    have qc1 := T1.out.c.cell
    have f1 := T1.out.c.frozen
    go_wp2
    exact bodyPost_ret (v := .tuple #[(.agg #[.int .i64 0, .int .i64 0, .int .i64 0, .int .i64 0, .int .i64 0, .int .i64 0]), .bool false]) (by simp [results, Try.results42, go_sem, qc1]) rfl ⟨rfl, below_set6 T1.out.bel (by omega) _ _ _ _ _ _⟩
  | true =>
    cases hT : aggOk ⟨v0, v1, v2, v3, v4, v5⟩ with
    | false =>
      rw [mergeA_no2 hT, mergeB_no2 hT, agV_zero]
      rw [hS] at CS
      rw [hT] at CT
      clear hS hT
      go_enter Try.func42, Try.ntmps42
      go_wp2_with fail
      refine (CS.out _).mono ?_
      rintro e w1 ⟨rfl, hb1⟩
      have T1 := Lib.hid (T0.out.below hb1)
      clear hb1
      have qa1 := T1.out.a.cell
      have qb1 := T1.out.b.cell
      have qc1 := T1.out.c.cell
      have f1 := T1.out.c.frozen
      go_wp2_with fail
      refine (CT.out _).mono ?_
      rintro e w2 ⟨rfl, hb2⟩
      have T2 := Lib.hid (T1.out.below hb2)
      clear hb2
      clear qa1 qb1 qc1 f1
      have qa2 := T2.out.a.cell
      have qb2 := T2.out.b.cell
      have qc2 := T2.out.c.cell
      have f2 := T2.out.c.frozen
      go_wp2
      exact bodyPost_ret (v := .tuple #[(.agg #[.int .i64 0, .int .i64 0, .int .i64 0, .int .i64 0, .int .i64 0, .int .i64 0]), .bool false]) (by simp [results, Try.results42, go_sem, qc2]) rfl ⟨rfl, below_set6 T2.out.bel (by omega) _ _ _ _ _ _⟩
    | true =>
      have bS := aggOk_bd hS
      have bT := aggOk_bd hT
      simp only at bS bT
      by_cases h0 : u0 = v0
      · subst h0
        by_cases h1 : u1 = v1
        · subst h1
          have hM : sameA ⟨u0, u1, u2, u3, u4, u5⟩ ⟨u0, u1, v2, v3, v4, v5⟩ = true := by simp [sameA]
          rw [mergeA_yes hS hT hM, mergeB_yes hS hT hM]
          have CQ := Lib.hid (fun W => specSum_x u0 u1 u2 u3 u4 u5 u0 u1 v2 v3 v4 v5 W (by omega) (by omega) (by omega) (by omega))
          rw [show agV (sumA ⟨u0, u1, u2, u3, u4, u5⟩ ⟨u0, u1, v2, v3, v4, v5⟩) = .agg #[.int .i64 u0, .int .i64 u1, .int .i64 (capS (u2 + v2)), .int .i64 (capS (u3 + v3)), .int .i64 (minI u4 v4), .int .i64 (maxI u5 v5)] from rfl] at CQ ⊢
          generalize capS (u2 + v2) = y2 at CQ ⊢
          generalize capS (u3 + v3) = y3 at CQ ⊢
          generalize minI u4 v4 = y4 at CQ ⊢
          generalize maxI u5 v5 = y5 at CQ ⊢
          rw [hS] at CS
          rw [hT] at CT
          clear hS hT hM bS bT
          go_enter Try.func42, Try.ntmps42
          go_wp2_with fail
          refine (CS.out _).mono ?_
          rintro e w1 ⟨rfl, hb1⟩
          have T1 := Lib.hid (T0.out.below hb1)
          clear hb1
          have qa1 := T1.out.a.cell
          have qb1 := T1.out.b.cell
          have qc1 := T1.out.c.cell
          have f1 := T1.out.c.frozen
          go_wp2_with fail
          refine (CT.out _).mono ?_
          rintro e w2 ⟨rfl, hb2⟩
          have T2 := Lib.hid (T1.out.below hb2)
          clear hb2
          clear qa1 qb1 qc1 f1
          have qa2 := T2.out.a.cell
          have qb2 := T2.out.b.cell
          have qc2 := T2.out.c.cell
          have f2 := T2.out.c.frozen
          go_wp2_with fail
          refine (CQ.out _).mono ?_
          rintro e w3 ⟨rfl, hb3⟩
          have T3 := Lib.hid (T2.out.below hb3)
          clear hb3
          clear qa2 qb2 qc2 f2
          have qa3 := T3.out.a.cell
          have qb3 := T3.out.b.cell
          have qc3 := T3.out.c.cell
          have f3 := T3.out.c.frozen
          go_wp2
          exact bodyPost_ret (v := .tuple #[.agg #[.int .i64 u0, .int .i64 u1, .int .i64 y2, .int .i64 y3, .int .i64 y4, .int .i64 y5], .bool true]) (by simp [results, Try.results42, go_sem, qc3]) rfl ⟨rfl, below_set6 T3.out.bel (by omega) _ _ _ _ _ _⟩
        · have hM : sameA ⟨u0, u1, u2, u3, u4, u5⟩ ⟨u0, v1, v2, v3, v4, v5⟩ = false := by simp [sameA, h1]
          rw [mergeA_no3 hM, mergeB_no3 hM, agV_zero]
          rw [hS] at CS
          rw [hT] at CT
          clear hS hT hM bS bT
          go_enter Try.func42, Try.ntmps42
          go_wp2_with fail
          refine (CS.out _).mono ?_
          rintro e w1 ⟨rfl, hb1⟩
          have T1 := Lib.hid (T0.out.below hb1)
          clear hb1
          have qa1 := T1.out.a.cell
          have qb1 := T1.out.b.cell
          have qc1 := T1.out.c.cell
          have f1 := T1.out.c.frozen
          go_wp2_with fail
          refine (CT.out _).mono ?_
          rintro e w2 ⟨rfl, hb2⟩
          have T2 := Lib.hid (T1.out.below hb2)
          clear hb2
          clear qa1 qb1 qc1 f1
          have qa2 := T2.out.a.cell
          have qb2 := T2.out.b.cell
          have qc2 := T2.out.c.cell
          have f2 := T2.out.c.frozen
          go_wp2
          exact bodyPost_ret (v := .tuple #[(.agg #[.int .i64 0, .int .i64 0, .int .i64 0, .int .i64 0, .int .i64 0, .int .i64 0]), .bool false]) (by simp [results, Try.results42, go_sem, qc2]) rfl ⟨rfl, below_set6 T2.out.bel (by omega) _ _ _ _ _ _⟩
      · have hM : sameA ⟨u0, u1, u2, u3, u4, u5⟩ ⟨v0, v1, v2, v3, v4, v5⟩ = false := by simp [sameA, h0]
        rw [mergeA_no3 hM, mergeB_no3 hM, agV_zero]
        rw [hS] at CS
        rw [hT] at CT
        clear hS hT hM bS bT
        go_enter Try.func42, Try.ntmps42
        go_wp2_with fail
        refine (CS.out _).mono ?_
        rintro e w1 ⟨rfl, hb1⟩
        have T1 := Lib.hid (T0.out.below hb1)
        clear hb1
        have qa1 := T1.out.a.cell
        have qb1 := T1.out.b.cell
        have qc1 := T1.out.c.cell
        have f1 := T1.out.c.frozen
        go_wp2_with fail
        refine (CT.out _).mono ?_
        rintro e w2 ⟨rfl, hb2⟩
        have T2 := Lib.hid (T1.out.below hb2)
        clear hb2
        clear qa1 qb1 qc1 f1
        have qa2 := T2.out.a.cell
        have qb2 := T2.out.b.cell
        have qc2 := T2.out.c.cell
        have f2 := T2.out.c.frozen
        go_wp2
        exact bodyPost_ret (v := .tuple #[(.agg #[.int .i64 0, .int .i64 0, .int .i64 0, .int .i64 0, .int .i64 0, .int .i64 0]), .bool false]) (by simp [results, Try.results42, go_sem, qc2]) rfl ⟨rfl, below_set6 T2.out.bel (by omega) _ _ _ _ _ _⟩
end Go.Proofs.Ytjbhcjfifkfmbaa
