/- slices.insertionSortCmpFunc over aggs. (made by tools/mkstab.py) -/
import Derived.Test.YtchbmnpajnlijaaStab2
namespace Go.Proofs.Ytchbmnpajnlijaa
open Go.RowKit Stab
theorem ins_left {A' B : List Ag} {x y : Ag} (h : Srt aheadA ((A' ++ [y]) ++ B)) (hy : aheadA x y = false) : ∀ a, a ∈ A' ++ [y] → aheadA x a = false := fun a ha => by
  have h1 := (srt_app.1 (srt_app.1 h).1).2.2
  rcases List.mem_append.1 ha with h2 | h2
  · exact swoA.trans x y a hy (h1 a h2 y (by simp))
  · obtain rfl := List.mem_singleton.1 h2
    exact hy
set_option maxHeartbeats 8000000 in
set_option maxRecDepth 100000 in
theorem insertion_x (g c lo n a b : Nat) (P X S : List Ag) (w : World) (h : w.ownsRow lo 86 6 (.slice (some ⟨g, 0, none⟩) n c) n (flatA (P ++ X ++ S))) (ha : a = P.length) (hb : b = P.length + X.length) (hbig : n ≤ 9223372036854775806) :
    Calls Try.prog 134 #[(.slice (some ⟨g, 0, none⟩) n c), .int .i64 (a : Int), .int .i64 (b : Int), .func (.func 106) #[] #[]] w fun e w' => e = .returned (.tuple #[]) ∧ ∃ Z, StS aheadA Z X ∧ Rt 86 g c lo n w w' (P ++ Z ++ S) := by
  have R0 := Lib.hid (Rt.start h)
  have hn : n = P.length + X.length + S.length := by rw [R0.out.len]; simp; omega
  have hbn : b ≤ n := by omega
  have hab : a ≤ b := by omega
  have HA := Lib.hid ha
  have HB := Lib.hid hb
  obtain ⟨a1, ha1⟩ : ∃ a1, a1 = a + 1 := ⟨_, rfl⟩
  have w1 : IntKind.i64.wrap ((a : Int) + 1) = (a1 : Int) := by rw [show (a : Int) + 1 = (a1 : Int) by omega]; exact IntWalk.i64_in _ (by omega)
  have BGN : Hid (∃ (k i : Nat) (Z : List Ag), X.length + k = X.length + 1 ∧ 1 ≤ k ∧ Value.int .i64 (a1 : Int) = .int .i64 (i : Int) ∧ i = a + k ∧ StS aheadA Z (X.take k) ∧ Rt 86 g c lo n w w (P ++ Z ++ X.drop k ++ S)) := by
    refine Lib.hid ⟨1, a1, X.take 1, rfl, Nat.le_refl _, rfl, ha1, StS.self ?_, ?_⟩
    · match X with
      | [] => exact List.Pairwise.nil
      | x :: X => simp [Srt]
    · have := R0.out
      rw [List.append_assoc P, List.take_append_drop]
      exact this
  clear h ha hb hn ha1
  go_enter Try.func134, Try.ntmps134
  go_wp2
  go_loopg [8] X.length (fun gk v wr => ∃ (k i : Nat) (Z : List Ag), gk + k = X.length + 1 ∧ 1 ≤ k ∧ v = .int .i64 (i : Int) ∧ i = a + k ∧ StS aheadA Z (X.take k) ∧ Rt 86 g c lo n w wr (P ++ Z ++ X.drop k ++ S))
  case atStart => exact BGN.out
  case round =>
    obtain ⟨k, i, Z, hk, hk1, rfl, hik, hZ, hr⟩ := hrel
    have HZ := Lib.hid hZ
    have HK := Lib.hid hk
    have R := Lib.hid hr
    have HI := Lib.hid hik
    obtain ⟨G1, hG1⟩ : ∃ G1, G1 = gk - 1 := ⟨_, rfl⟩
    clear hZ hr
    by_cases hib : i < b
    · have hib' : (i : Int) < (b : Int) := by omega
      have hkX : k < X.length := by have := HA.out; have := HB.out; omega
      have ex : X.drop k = ael X k :: X.drop (k + 1) := rel_drop aD hkX
      have et : X.take (k + 1) = X.take k ++ [ael X k] := ael_take hkX
      obtain ⟨x, hx⟩ : ∃ x, x = ael X k := ⟨_, rfl⟩
      obtain ⟨D, hD⟩ : ∃ D, D = X.drop (k + 1) := ⟨_, rfl⟩
      rw [← hx] at ex et
      rw [← hD] at ex
      have hZl : Z.length = k := by rw [HZ.out.kin.len, List.length_take]; omega
      obtain ⟨i1, hi1⟩ : ∃ i1, i1 = i + 1 := ⟨_, rfl⟩
      have w2 : IntKind.i64.wrap ((i : Int) + 1) = (i1 : Int) := by rw [show (i : Int) + 1 = (i1 : Int) by omega]; exact IntWalk.i64_in _ (by omega)
      have BG2 : Hid (∃ (j : Nat) (A B : List Ag), k = A.length ∧ Value.int .i64 (i : Int) = .int .i64 (j : Int) ∧ j = a + A.length ∧ A ++ B = Z ∧ (∀ y, y ∈ B → aheadA x y = true) ∧ Rt 86 g c lo n w wr (P ++ A ++ x :: B ++ D ++ S)) :=
        Lib.hid ⟨i, Z, [], hZl.symm, rfl, by rw [hZl]; exact hik, by simp, by simp, by have := R.out; rw [ex] at this; simpa using this⟩
      have OUT : Hid (∀ (A B : List Ag) (W : World), A ++ B = Z → (∀ y, y ∈ B → aheadA x y = true) → (∀ y, y ∈ A → aheadA x y = false) → Rt 86 g c lo n w W (P ++ A ++ x :: B ++ D ++ S) → ∃ (k' i' : Nat) (Z' : List Ag), G1 + k' = X.length + 1 ∧ 1 ≤ k' ∧ Value.int .i64 (i1 : Int) = .int .i64 (i' : Int) ∧ i' = a + k' ∧ StS aheadA Z' (X.take k') ∧ Rt 86 g c lo n w W (P ++ Z' ++ X.drop k' ++ S)) :=
        Lib.hid fun A B W h1 h2 h3 h4 => ⟨k + 1, i1, A ++ x :: B, by omega, by omega, rfl, by omega, by
          have hs := StS.ins swoA (A := A) (B := B) (x := x) (by rw [h1]; exact HZ.out.srt) h2 h3
          refine ⟨hs.srt, hs.kin.trans ?_⟩
          rw [h1, et]
          exact HZ.out.kin.app (Kin.refl _), by
          rw [← hD]
          have e : P ++ (A ++ x :: B) ++ D ++ S = P ++ A ++ x :: B ++ D ++ S := by simp
          rw [e]; exact h4⟩
      have hPD : P.length + k + 1 + D.length + S.length = n := by
        have := R.out.len
        rw [ex] at this
        simp at this
        omega
      have HPD := Lib.hid hPD
      have HGK : Hid (G1 < gk) := Lib.hid (by omega)
      have hin : i ≤ n := by omega
      have HZs := Lib.hid HZ.out.srt
      clear ex et hx hD hZl hk hk1 hik hi1 hPD hkX R hG1
      go_wp2
      go_loopg [9] k (fun gk2 vj wr2 => ∃ (j : Nat) (A B : List Ag), gk2 = A.length ∧ vj = .int .i64 (j : Int) ∧ j = a + A.length ∧ A ++ B = Z ∧ (∀ y, y ∈ B → aheadA x y = true) ∧ Rt 86 g c lo n w wr2 (P ++ A ++ x :: B ++ D ++ S))
      case atStart => exact BG2.out
      case round =>
        obtain ⟨j, A, B, hg2, rfl, hj, hAB0, hB, hr⟩ := hrel
        have HAB := Lib.hid hAB0
        have HBB := Lib.hid hB
        have R := Lib.hid hr
        have HG2 := Lib.hid hg2
        have HJ := Lib.hid hj
        clear hAB0 hB hr hg2
        rcases List.eq_nil_or_concat A with hA | ⟨A', y, hA⟩
        · subst hA
          simp only [List.length_nil, Nat.add_zero] at hj
          subst hj
          have hd : decide ((j : Int) < (j : Int)) = false := by simp
          go_wp2_with fail
          go_quiet (fail)
          all_goals
            go_wp2
            go_roundg G1
            case measure => exact HGK.out
            case rel => exact OUT.out [] B _ HAB.out HBB.out (by simp) (R.out.drewN _)
        · simp only [List.concat_eq_append] at hA
          subst hA
          have hAl : (A' ++ [y]).length = A'.length + 1 := by simp
          rw [hAl] at hj
          obtain ⟨j1, hj1e⟩ : ∃ j1, j1 = a + A'.length := ⟨_, rfl⟩
          have hjj : j = j1 + 1 := by omega
          have hja : (a : Int) < (j : Int) := by omega
          have hjd : decide ((a : Int) < (j : Int)) = true := decide_eq_true hja
          have hjk : A'.length + 1 ≤ k := by
            have := HZ.out.kin.len
            rw [← HAB.out, List.length_take] at this
            simp at this
            omega
          have hjn : j < n := by have := HPD.out; have := HA.out; omega
          have hj1n : j1 < n := by omega
          have w3 : IntKind.i64.wrap ((j : Int) - 1) = (j1 : Int) := by rw [show (j : Int) - 1 = (j1 : Int) by omega]; exact IntWalk.i64_in _ (by omega)
          have eL : P ++ (A' ++ [y]) ++ x :: B ++ D ++ S = P ++ A' ++ y :: x :: B ++ D ++ S := by simp
          have R := Lib.hid (by have := R.out; rw [eL] at this; exact this : Rt 86 g c lo n w wr (P ++ A' ++ y :: x :: B ++ D ++ S))
          have e1 : ael (P ++ A' ++ y :: x :: B ++ D ++ S) j = x := by
            rw [show P ++ A' ++ y :: x :: B ++ D ++ S = (P ++ A' ++ [y]) ++ x :: (B ++ D ++ S) by simp]
            exact ael_app (by simp; have := HA.out; omega)
          have e2 : ael (P ++ A' ++ y :: x :: B ++ D ++ S) j1 = y := by
            rw [show P ++ A' ++ y :: x :: B ++ D ++ S = (P ++ A') ++ y :: (x :: B ++ D ++ S) by simp]
            exact ael_app (by simp; have := HA.out; omega)
          have NX : Hid (swp aD (P ++ A' ++ y :: x :: B ++ D ++ S) j j1 = P ++ A' ++ x :: y :: B ++ D ++ S) := by
            rw [swp_comm]
            have := swp_next aD (P ++ A') (B ++ D ++ S) y x
            have hl : (P ++ A').length = j1 := by simp; have := HA.out; omega
            rw [hl, ← hjj] at this
            simpa using Lib.hid this
          cases hAB : aheadA x y with
          | true =>
            have NEW : Hid (∀ W, Rt 86 g c lo n w W (swp aD (P ++ A' ++ y :: x :: B ++ D ++ S) j j1) → ∃ (j' : Nat) (A B : List Ag), A'.length = A.length ∧ Value.int .i64 (j1 : Int) = .int .i64 (j' : Int) ∧ j' = a + A.length ∧ A ++ B = Z ∧ (∀ y, y ∈ B → aheadA x y = true) ∧ Rt 86 g c lo n w W (P ++ A ++ x :: B ++ D ++ S)) :=
              Lib.hid fun W hW => ⟨j1, A', y :: B, rfl, rfl, hj1e, by rw [← HAB.out]; simp, fun z hz => by
                rcases List.mem_cons.1 hz with rfl | hz
                · exact hAB
                · exact HBB.out z hz, by rw [NX.out] at hW; exact hW⟩
            have hAB : aheadA (ael (P ++ A' ++ y :: x :: B ++ D ++ S) j) (ael (P ++ A' ++ y :: x :: B ++ D ++ S) j1) = true := by rw [e1, e2]; exact hAB
            clear hj hj1e hjj hAl eL hjk e1 e2 NX
            generalize P ++ A' ++ y :: x :: B ++ D ++ S = L at R hAB NEW
            have hAl2 : A'.length < (A' ++ [y]).length := by simp
            have HG2 := Lib.hid (show A'.length < _ from HG2.out ▸ hAl2)
            clear hAl2
            have hLn := R.out.len
            have CE : Hid (∀ W9, Below wr.heap.size wr W9 → W9.cell? ⟨g, j * 6, none⟩ = some (.int .i64 (ael (L) j).win) ∧ W9.cell? ⟨g, j * 6 + 1, none⟩ = some (.int .i64 (ael (L) j).key) ∧ W9.cell? ⟨g, j * 6 + 2, none⟩ = some (.int .i64 (ael (L) j).cnt) ∧ W9.cell? ⟨g, j * 6 + 3, none⟩ = some (.int .i64 (ael (L) j).sum) ∧ W9.cell? ⟨g, j * 6 + 4, none⟩ = some (.int .i64 (ael (L) j).mn) ∧ W9.cell? ⟨g, j * 6 + 5, none⟩ = some (.int .i64 (ael (L) j).mx) ∧ W9.cell? ⟨g, j1 * 6, none⟩ = some (.int .i64 (ael (L) j1).win) ∧ W9.cell? ⟨g, j1 * 6 + 1, none⟩ = some (.int .i64 (ael (L) j1).key) ∧ W9.cell? ⟨g, j1 * 6 + 2, none⟩ = some (.int .i64 (ael (L) j1).cnt) ∧ W9.cell? ⟨g, j1 * 6 + 3, none⟩ = some (.int .i64 (ael (L) j1).sum) ∧ W9.cell? ⟨g, j1 * 6 + 4, none⟩ = some (.int .i64 (ael (L) j1).mn) ∧ W9.cell? ⟨g, j1 * 6 + 5, none⟩ = some (.int .i64 (ael (L) j1).mx)) := Lib.hid (fun W9 hb9 => by
              have o9 := (R.out.below hb9).own
              obtain ⟨p0, p1, p2, p3, p4, p5⟩ := own_ag o9 j (by omega)
              obtain ⟨r0, r1, r2, r3, r4, r5⟩ := own_ag o9 j1 (by omega)
              exact ⟨p0, p1, p2, p3, p4, p5, r0, r1, r2, r3, r4, r5⟩)
            have hX : cmpA (ael (L) j) (ael (L) j1) < 0 := cmpA_neg.2 hAB
            have hi0 : (0 : Int) ≤ (j : Int) := by omega
            have hi1 : (j : Int) < (n : Int) := by omega
            have hj0 : (0 : Int) ≤ (j1 : Int) := by omega
            have hj1 : (j1 : Int) < (n : Int) := by omega
            clear hLn hAB
            generalize hX9 : ael (L) j = X9 at CE hX
            generalize hY9 : ael (L) j1 = Y9 at CE hX
            obtain ⟨u0, u1, u2, u3, u4, u5⟩ := X9
            obtain ⟨v0, v1, v2, v3, v4, v5⟩ := Y9
            simp only at CE hX
            have EX := Lib.hid hX9
            have EY := Lib.hid hY9
            clear hX9 hY9
            have CM := Lib.hid (fun W => cmpA_x u0 u1 u2 u3 u4 u5 v0 v1 v2 v3 v4 v5 W)
            generalize cmpA ⟨u0, u1, u2, u3, u4, u5⟩ ⟨v0, v1, v2, v3, v4, v5⟩ = z9 at CM hX
            obtain ⟨q0, q1, q2, q3, q4, q5, t0, t1, t2, t3, t4, t5⟩ := CE.out wr.drew ((Below.refl _ _).drew)
            go_wp2_with fail
            go_region_held3 (fun W => W.cell? ⟨g, j * 6, none⟩ = some (.int .i64 u0) ∧ W.cell? ⟨g, j * 6 + 1, none⟩ = some (.int .i64 u1) ∧ W.cell? ⟨g, j * 6 + 2, none⟩ = some (.int .i64 u2) ∧ W.cell? ⟨g, j * 6 + 3, none⟩ = some (.int .i64 u3) ∧ W.cell? ⟨g, j * 6 + 4, none⟩ = some (.int .i64 u4) ∧ W.cell? ⟨g, j * 6 + 5, none⟩ = some (.int .i64 u5) ∧ W.cell? ⟨g, j1 * 6, none⟩ = some (.int .i64 v0) ∧ W.cell? ⟨g, j1 * 6 + 1, none⟩ = some (.int .i64 v1) ∧ W.cell? ⟨g, j1 * 6 + 2, none⟩ = some (.int .i64 v2) ∧ W.cell? ⟨g, j1 * 6 + 3, none⟩ = some (.int .i64 v3) ∧ W.cell? ⟨g, j1 * 6 + 4, none⟩ = some (.int .i64 v4) ∧ W.cell? ⟨g, j1 * 6 + 5, none⟩ = some (.int .i64 v5))
              (exact ⟨q0, q1, q2, q3, q4, q5, t0, t1, t2, t3, t4, t5⟩)
              (first | (go_at_call 106; refine (CM.out _).mono ?_; rintro e w2 ⟨rfl, hb⟩; have R := Lib.hid (R.out.drew.below hb); obtain ⟨q0, q1, q2, q3, q4, q5, t0, t1, t2, t3, t4, t5⟩ := CE.out w2 ((Below.refl _ _).drew.trans hb); clear hb))
            all_goals
              clear q0 q1 q2 q3 q4 q5 t0 t1 t2 t3 t4 t5
              have hinf : (Try.prog.info? 86).map (·.size) = some 6 := by kernel_rfl
              have hLn := R.out.len
              have SW := Lib.hid (R.out.drew.swap (i := j) (j := j1) (by omega) (by omega))
              have CI := own_ag R.out.own j (by omega)
              have CJ := own_ag R.out.own j1 (by omega)
              have P1 := (putAg_own R.out.drew.own (show j < (L).length by omega) (ael (L) j1).win (ael (L) j1).key (ael (L) j1).cnt (ael (L) j1).sum (ael (L) j1).mn (ael (L) j1).mx).1
              have T1 := Lib.hid (there_ownA R.out.drew.own (show j < (L).length by omega))
              have T2 := Lib.hid (there_ownA P1 (show j1 < ((L).set j _).length by rw [List.length_set]; omega))
              clear P1
              have hk0 : (0 : Int) ≤ (j : Int) := by omega
              have hi1 : (j : Int) < (n : Int) := by omega
              have hj0 : (0 : Int) ≤ (j1 : Int) := by omega
              have hj1 : (j1 : Int) < (n : Int) := by omega
              clear hLn
              simp only [EX.out, EY.out] at SW CI CJ T1 T2
              obtain ⟨a0, a1, a2, a3, a4, a5⟩ := CI
              obtain ⟨b0, b1, b2, b3, b4, b5⟩ := CJ
              go_wp2_with fail
              refine wp_region_any (by kernel_rfl) ?_
              change wpAny _ _ _ _ _ _ _ (World.drew _)
              refine wpAny_take (oi := ⟨some 37, _, _, _, _, _⟩) (i := 0) (v := (.slice (some ⟨g, 0, none⟩) n c)) rfl (by kernel_rfl) (by kernel_rfl) (by kernel_rfl) (fun _ _ _ h => h) (Or.inl ⟨by kernel_rfl, fun w => by go_simp⟩) ?_
              go_simp
              refine wpAny_take (oi := ⟨some 38, _, _, _, _, _⟩) (i := 1) (v := .int .i64 (j : Int)) rfl (by kernel_rfl) (by kernel_rfl) (by kernel_rfl) (fun _ _ _ h => h) (Or.inl ⟨by kernel_rfl, fun w => by go_simp⟩) ?_
              go_simp
              refine wpAny_take (oi := ⟨some 39, _, _, _, _, _⟩) (i := 2) (v := (.slice (some ⟨g, 0, none⟩) n c)) rfl (by kernel_rfl) (by kernel_rfl) (by kernel_rfl) (fun _ _ _ h => h) (Or.inl ⟨by kernel_rfl, fun w => by go_simp⟩) ?_
              go_simp
              refine wpAny_take (oi := ⟨some 40, _, _, _, _, _⟩) (i := 3) (v := .int .i64 (j : Int)) rfl (by kernel_rfl) (by kernel_rfl) (by kernel_rfl) (fun _ _ _ h => h) (Or.inl ⟨by kernel_rfl, fun w => by go_simp⟩) ?_
              go_simp
              refine wpAny_take (oi := ⟨some 41, _, _, _, _, _⟩) (i := 4) (v := .int .i64 (j1 : Int)) rfl (by kernel_rfl) (by kernel_rfl) (by kernel_rfl) (fun _ _ _ h => h) (Or.inl ⟨by kernel_rfl, fun w => by go_simp⟩) ?_
              go_simp
              refine wpAny_take (oi := ⟨some 42, _, _, _, _, _⟩) (i := 5) (v := (.slice (some ⟨g, 0, none⟩) n c)) rfl (by kernel_rfl) (by kernel_rfl) (by kernel_rfl) (fun _ _ _ h => h) (Or.inl ⟨by kernel_rfl, fun w => by go_simp⟩) ?_
              go_simp
              refine wpAny_take (oi := ⟨some 43, _, _, _, _, _⟩) (i := 6) (v := .int .i64 (j : Int)) rfl (by kernel_rfl) (by kernel_rfl) (by kernel_rfl) (fun _ _ _ h => h) (Or.inl ⟨by kernel_rfl, fun w => by go_simp⟩) ?_
              go_simp
              refine wpAny_take (oi := ⟨some 44, _, _, _, _, _⟩) (i := 7) (v := .int .i64 (j1 : Int)) rfl (by kernel_rfl) (by kernel_rfl) (by kernel_rfl) (fun _ _ _ h => h) (Or.inl ⟨by kernel_rfl, fun w => by go_simp⟩) ?_
              go_simp
              refine wpAny_take (oi := ⟨some 45, _, _, _, _, _⟩) (i := 8) (v := .pointer (some ⟨g, j1 * 6, none⟩)) rfl (by kernel_rfl) (by kernel_rfl) (by kernel_rfl) (fun _ _ _ h => h) (Or.inl ⟨by kernel_rfl, fun w => by go_simp⟩) ?_
              go_simp
              refine wpAny_take (oi := ⟨some 47, _, _, _, _, _⟩) (i := 10) (v := (.slice (some ⟨g, 0, none⟩) n c)) rfl (by kernel_rfl) (by kernel_rfl) (by kernel_rfl) (fun _ _ _ h => h) (Or.inl ⟨by kernel_rfl, fun w => by go_simp⟩) ?_
              go_simp
              refine wpAny_take (oi := ⟨some 48, _, _, _, _, _⟩) (i := 11) (v := .int .i64 (j : Int)) rfl (by kernel_rfl) (by kernel_rfl) (by kernel_rfl) (fun _ _ _ h => h) (Or.inl ⟨by kernel_rfl, fun w => by go_simp⟩) ?_
              go_simp
              refine wpAny_take (oi := ⟨some 49, _, _, _, _, _⟩) (i := 12) (v := .pointer (some ⟨g, j * 6, none⟩)) rfl (by kernel_rfl) (by kernel_rfl) (by kernel_rfl) (fun _ _ _ h => h) (Or.inl ⟨by kernel_rfl, fun w => by go_simp⟩) ?_
              go_simp
              refine wpAny_ready (rs := [9, 13]) (by kernel_rfl) (by simp) ?_
              refine AllReady.cons rfl (fun K hK => ?_) (AllReady.cons rfl (fun K hK => ?_) AllReady.nil)
              · go_simp
                refine hK _ _ ?_
                clear hK K
                refine wpAny_ready (rs := [13]) (by kernel_rfl) (by simp) ?_
                refine AllReady.cons rfl (fun K hK => ?_) AllReady.nil
                go_simp
                refine hK _ _ ?_
                clear hK K
                refine wpAny_take (oi := ⟨some 51, _, _, _, _, _⟩) (i := 14) (v := .pointer (some ⟨g, j * 6, none⟩)) rfl (by kernel_rfl) (by kernel_rfl) (by kernel_rfl) (fun _ _ _ h => h) (Or.inl ⟨by kernel_rfl, fun w => by go_simp⟩) ?_
                go_simp
                refine wpAny_ready (rs := [15]) (by kernel_rfl) (by simp) ?_
                refine AllReady.cons rfl (fun K hK => ?_) AllReady.nil
                rw [if_pos (by rfl)]
                refine wp_store_mid _ _ _ rfl g (j * 6) #[.int .i64 v0, .int .i64 v1, .int .i64 v2, .int .i64 v3, .int .i64 v4, .int .i64 v5] rfl rfl T1.out hinf (by simp [Value.oneCell']) ?_
                refine hK _ _ ?_
                clear hK K
                change wpAny _ _ _ _ _ _ _ (World.setCells (World.drew _) g (j * 6) [.int .i64 v0, .int .i64 v1, .int .i64 v2, .int .i64 v3, .int .i64 v4, .int .i64 v5])
                rw [setCells_putA]
                generalize hW5 : putAg w2.drew g (j * 6) v0 v1 v2 v3 v4 v5 = W5 at T2 ⊢
                have HW5 := Lib.hid hW5
                clear hW5
                refine wpAny_take (oi := ⟨some 52, _, _, _, _, _⟩) (i := 16) (v := .pointer (some ⟨g, j1 * 6, none⟩)) rfl (by kernel_rfl) (by kernel_rfl) (by kernel_rfl) (fun _ _ _ h => h) (Or.inl ⟨by kernel_rfl, fun w => by go_simp⟩) ?_
                go_simp
                refine wpAny_ready (rs := [17]) (by kernel_rfl) (by simp) ?_
                refine AllReady.cons rfl (fun K hK => ?_) AllReady.nil
                rw [if_pos (by rfl)]
                refine wp_store_mid _ _ _ rfl g (j1 * 6) #[.int .i64 u0, .int .i64 u1, .int .i64 u2, .int .i64 u3, .int .i64 u4, .int .i64 u5] rfl rfl T2.out hinf (by simp [Value.oneCell']) ?_
                refine hK _ _ ?_
                clear hK K
                change wpAny _ _ _ _ _ _ _ (World.setCells _ g (j1 * 6) [.int .i64 u0, .int .i64 u1, .int .i64 u2, .int .i64 u3, .int .i64 u4, .int .i64 u5])
                rw [setCells_putA]
                refine wpAny_done (by kernel_rfl) ?_ _
                generalize hW6 : putAg W5 g (j1 * 6) u0 u1 u2 u3 u4 u5 = W6
                have HW6 := Lib.hid (hW6.symm.trans (by rw [← HW5.out]))
                clear hW6 HW5
                go_wp2
                go_roundg A'.length
                case measure => (have e1 := HG2.out; omega)
                case rel => exact NEW.out _ (by rw [HW6.out]; exact SW.out)
              · go_simp
                refine hK _ _ ?_
                clear hK K
                refine wpAny_ready (rs := [9]) (by kernel_rfl) (by simp) ?_
                refine AllReady.cons rfl (fun K hK => ?_) AllReady.nil
                go_simp
                refine hK _ _ ?_
                clear hK K
                refine wpAny_take (oi := ⟨some 51, _, _, _, _, _⟩) (i := 14) (v := .pointer (some ⟨g, j * 6, none⟩)) rfl (by kernel_rfl) (by kernel_rfl) (by kernel_rfl) (fun _ _ _ h => h) (Or.inl ⟨by kernel_rfl, fun w => by go_simp⟩) ?_
                go_simp
                refine wpAny_ready (rs := [15]) (by kernel_rfl) (by simp) ?_
                refine AllReady.cons rfl (fun K hK => ?_) AllReady.nil
                rw [if_pos (by rfl)]
                refine wp_store_mid _ _ _ rfl g (j * 6) #[.int .i64 v0, .int .i64 v1, .int .i64 v2, .int .i64 v3, .int .i64 v4, .int .i64 v5] rfl rfl T1.out hinf (by simp [Value.oneCell']) ?_
                refine hK _ _ ?_
                clear hK K
                change wpAny _ _ _ _ _ _ _ (World.setCells (World.drew _) g (j * 6) [.int .i64 v0, .int .i64 v1, .int .i64 v2, .int .i64 v3, .int .i64 v4, .int .i64 v5])
                rw [setCells_putA]
                generalize hW5 : putAg w2.drew g (j * 6) v0 v1 v2 v3 v4 v5 = W5 at T2 ⊢
                have HW5 := Lib.hid hW5
                clear hW5
                refine wpAny_take (oi := ⟨some 52, _, _, _, _, _⟩) (i := 16) (v := .pointer (some ⟨g, j1 * 6, none⟩)) rfl (by kernel_rfl) (by kernel_rfl) (by kernel_rfl) (fun _ _ _ h => h) (Or.inl ⟨by kernel_rfl, fun w => by go_simp⟩) ?_
                go_simp
                refine wpAny_ready (rs := [17]) (by kernel_rfl) (by simp) ?_
                refine AllReady.cons rfl (fun K hK => ?_) AllReady.nil
                rw [if_pos (by rfl)]
                refine wp_store_mid _ _ _ rfl g (j1 * 6) #[.int .i64 u0, .int .i64 u1, .int .i64 u2, .int .i64 u3, .int .i64 u4, .int .i64 u5] rfl rfl T2.out hinf (by simp [Value.oneCell']) ?_
                refine hK _ _ ?_
                clear hK K
                change wpAny _ _ _ _ _ _ _ (World.setCells _ g (j1 * 6) [.int .i64 u0, .int .i64 u1, .int .i64 u2, .int .i64 u3, .int .i64 u4, .int .i64 u5])
                rw [setCells_putA]
                refine wpAny_done (by kernel_rfl) ?_ _
                generalize hW6 : putAg W5 g (j1 * 6) u0 u1 u2 u3 u4 u5 = W6
                have HW6 := Lib.hid (hW6.symm.trans (by rw [← HW5.out]))
                clear hW6 HW5
                go_wp2
                go_roundg A'.length
                case measure => (have e1 := HG2.out; omega)
                case rel => exact NEW.out _ (by rw [HW6.out]; exact SW.out)
          | false =>
            have HLE := Lib.hid (ins_left (B := B) (by rw [HAB.out]; exact HZs.out) hAB)
            have hAB : aheadA (ael (P ++ A' ++ y :: x :: B ++ D ++ S) j) (ael (P ++ A' ++ y :: x :: B ++ D ++ S) j1) = false := by rw [e1, e2]; exact hAB
            have OUT : Hid (∀ W, Rt 86 g c lo n w W (P ++ A' ++ y :: x :: B ++ D ++ S) → ∃ (k' i' : Nat) (Z' : List Ag), G1 + k' = X.length + 1 ∧ 1 ≤ k' ∧ Value.int .i64 (i1 : Int) = .int .i64 (i' : Int) ∧ i' = a + k' ∧ StS aheadA Z' (X.take k') ∧ Rt 86 g c lo n w W (P ++ Z' ++ X.drop k' ++ S)) := Lib.hid fun W hW => OUT.out (A' ++ [y]) B W HAB.out HBB.out HLE.out (by rw [eL]; exact hW)
            clear hj hj1e hjj hAl eL hjk e1 e2 NX
            generalize P ++ A' ++ y :: x :: B ++ D ++ S = L at R hAB OUT
            have hLn := R.out.len
            have CE : Hid (∀ W9, Below wr.heap.size wr W9 → W9.cell? ⟨g, j * 6, none⟩ = some (.int .i64 (ael (L) j).win) ∧ W9.cell? ⟨g, j * 6 + 1, none⟩ = some (.int .i64 (ael (L) j).key) ∧ W9.cell? ⟨g, j * 6 + 2, none⟩ = some (.int .i64 (ael (L) j).cnt) ∧ W9.cell? ⟨g, j * 6 + 3, none⟩ = some (.int .i64 (ael (L) j).sum) ∧ W9.cell? ⟨g, j * 6 + 4, none⟩ = some (.int .i64 (ael (L) j).mn) ∧ W9.cell? ⟨g, j * 6 + 5, none⟩ = some (.int .i64 (ael (L) j).mx) ∧ W9.cell? ⟨g, j1 * 6, none⟩ = some (.int .i64 (ael (L) j1).win) ∧ W9.cell? ⟨g, j1 * 6 + 1, none⟩ = some (.int .i64 (ael (L) j1).key) ∧ W9.cell? ⟨g, j1 * 6 + 2, none⟩ = some (.int .i64 (ael (L) j1).cnt) ∧ W9.cell? ⟨g, j1 * 6 + 3, none⟩ = some (.int .i64 (ael (L) j1).sum) ∧ W9.cell? ⟨g, j1 * 6 + 4, none⟩ = some (.int .i64 (ael (L) j1).mn) ∧ W9.cell? ⟨g, j1 * 6 + 5, none⟩ = some (.int .i64 (ael (L) j1).mx)) := Lib.hid (fun W9 hb9 => by
              have o9 := (R.out.below hb9).own
              obtain ⟨p0, p1, p2, p3, p4, p5⟩ := own_ag o9 j (by omega)
              obtain ⟨r0, r1, r2, r3, r4, r5⟩ := own_ag o9 j1 (by omega)
              exact ⟨p0, p1, p2, p3, p4, p5, r0, r1, r2, r3, r4, r5⟩)
            have hX : ¬ cmpA (ael (L) j) (ael (L) j1) < 0 := fun h9 => by rw [cmpA_neg.1 h9] at hAB; cases hAB
            have hi0 : (0 : Int) ≤ (j : Int) := by omega
            have hi1 : (j : Int) < (n : Int) := by omega
            have hj0 : (0 : Int) ≤ (j1 : Int) := by omega
            have hj1 : (j1 : Int) < (n : Int) := by omega
            clear hLn hAB
            generalize hX9 : ael (L) j = X9 at CE hX
            generalize hY9 : ael (L) j1 = Y9 at CE hX
            obtain ⟨u0, u1, u2, u3, u4, u5⟩ := X9
            obtain ⟨v0, v1, v2, v3, v4, v5⟩ := Y9
            simp only at CE hX
            have EX := Lib.hid hX9
            have EY := Lib.hid hY9
            clear hX9 hY9
            have CM := Lib.hid (fun W => cmpA_x u0 u1 u2 u3 u4 u5 v0 v1 v2 v3 v4 v5 W)
            generalize cmpA ⟨u0, u1, u2, u3, u4, u5⟩ ⟨v0, v1, v2, v3, v4, v5⟩ = z9 at CM hX
            obtain ⟨q0, q1, q2, q3, q4, q5, t0, t1, t2, t3, t4, t5⟩ := CE.out wr.drew ((Below.refl _ _).drew)
            go_wp2_with fail
            go_region_held3 (fun W => W.cell? ⟨g, j * 6, none⟩ = some (.int .i64 u0) ∧ W.cell? ⟨g, j * 6 + 1, none⟩ = some (.int .i64 u1) ∧ W.cell? ⟨g, j * 6 + 2, none⟩ = some (.int .i64 u2) ∧ W.cell? ⟨g, j * 6 + 3, none⟩ = some (.int .i64 u3) ∧ W.cell? ⟨g, j * 6 + 4, none⟩ = some (.int .i64 u4) ∧ W.cell? ⟨g, j * 6 + 5, none⟩ = some (.int .i64 u5) ∧ W.cell? ⟨g, j1 * 6, none⟩ = some (.int .i64 v0) ∧ W.cell? ⟨g, j1 * 6 + 1, none⟩ = some (.int .i64 v1) ∧ W.cell? ⟨g, j1 * 6 + 2, none⟩ = some (.int .i64 v2) ∧ W.cell? ⟨g, j1 * 6 + 3, none⟩ = some (.int .i64 v3) ∧ W.cell? ⟨g, j1 * 6 + 4, none⟩ = some (.int .i64 v4) ∧ W.cell? ⟨g, j1 * 6 + 5, none⟩ = some (.int .i64 v5))
              (exact ⟨q0, q1, q2, q3, q4, q5, t0, t1, t2, t3, t4, t5⟩)
              (first | (go_at_call 106; refine (CM.out _).mono ?_; rintro e w2 ⟨rfl, hb⟩; have R := Lib.hid (R.out.drew.below hb); obtain ⟨q0, q1, q2, q3, q4, q5, t0, t1, t2, t3, t4, t5⟩ := CE.out w2 ((Below.refl _ _).drew.trans hb); clear hb))
            all_goals
              clear q0 q1 q2 q3 q4 q5 t0 t1 t2 t3 t4 t5
              go_wp2
              go_roundg G1
              case measure => exact HGK.out
              case rel => exact OUT.out _ R.out
    · have hib' : ¬ (i : Int) < (b : Int) := by omega
      have e1 : X.take k = X := List.take_of_length_le (by have := HA.out; have := HB.out; omega)
      have e2 : X.drop k = [] := List.drop_eq_nil_of_le (by have := HA.out; have := HB.out; omega)
      have FIN : Hid (∃ Z, StS aheadA Z X ∧ Rt 86 g c lo n w wr (P ++ Z ++ S)) := Lib.hid ⟨Z, by have := HZ.out; rw [e1] at this; exact this, by have := R.out; rw [e2] at this; simpa using this⟩
      clear e1 e2 hk hk1 hik
      go_wp2
      go_end0
      exact ⟨rfl, by simpa only [List.append_assoc] using FIN.out⟩

end Go.Proofs.Ytchbmnpajnlijaa
