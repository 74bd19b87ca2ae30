/- slices.swapRangeCmpFunc over aggs. (made by tools/mkstab.py) -/
import Derived.Test.YtchbmnpajnlijaaRt
namespace Go.Proofs.Ytchbmnpajnlijaa
open Go.RowKit Stab
set_option maxHeartbeats 4000000 in
set_option maxRecDepth 100000 in
theorem swapRange_x (F : Value) (g c lo n a b m : Nat) (P X M Y S : List Ag) (w : World) (h : w.ownsRow lo 86 6 (.slice (some ⟨g, 0, none⟩) n c) n (flatA (P ++ X ++ M ++ Y ++ S))) (hXY : X.length = Y.length) (ha : a = P.length) (hb : b = P.length + X.length + M.length) (hm : m = X.length) :
    Calls Try.prog 174 #[(.slice (some ⟨g, 0, none⟩) n c), .int .i64 (a : Int), .int .i64 (b : Int), .int .i64 (m : Int), F] w fun e w' => e = .returned (.tuple #[]) ∧ Rt 86 g c lo n w w' (P ++ Y ++ M ++ X ++ S) := by
  have hcap := ownR_cap h
  have R0 := Lib.hid (Rt.start h)
  have hXYh := Lib.hid hXY
  have hah := Lib.hid ha
  have hbh := Lib.hid hb
  have hmh := Lib.hid hm
  clear h hXY ha hb hm
  go_enter Try.func174, Try.ntmps174
  go_wp2
  go_loopw [10] (fun v wr => ∃ t : Nat, v = .int .i64 (t : Int) ∧ t ≤ m ∧ Rt 86 g c lo n w wr (P ++ (Y.take t ++ X.drop t) ++ M ++ (X.take t ++ Y.drop t) ++ S)) (fun v _ => m - (intOf v).toNat)
  case atStart => exact ⟨0, rfl, Nat.zero_le _, by simpa using R0.out⟩
  case round =>
    obtain ⟨t, rfl, ht, hr⟩ := hrel
    have R := Lib.hid hr
    clear hr
    by_cases hlt : t < m
    · have hlt' : (t : Int) < (m : Int) := by omega
      have hn : n = P.length + X.length + M.length + Y.length + S.length := by
        rw [R0.out.len]; simp; omega
      have hX := hXYh.out
      have hA := hah.out
      have hB := hbh.out
      have hM := hmh.out
      obtain ⟨i, hie⟩ : ∃ i, i = a + t := ⟨_, rfl⟩
      obtain ⟨j, hje⟩ : ∃ j, j = b + t := ⟨_, rfl⟩
      have NX : Hid (swp aD (P ++ (Y.take t ++ X.drop t) ++ M ++ (X.take t ++ Y.drop t) ++ S) i j = P ++ (Y.take (t + 1) ++ X.drop (t + 1)) ++ M ++ (X.take (t + 1) ++ Y.drop (t + 1)) ++ S) := by
        rw [hie, hje, hA, hB]; exact swp_range aD P X M Y S t (by omega) hX
      have hi : i < n := by omega
      have hj : j < n := by omega
      have wi : IntKind.i64.wrap ((a : Int) + (t : Int)) = (i : Int) := by rw [show (a : Int) + (t : Int) = (i : Int) by omega]; exact IntWalk.i64_in _ (by omega)
      have wj : IntKind.i64.wrap ((b : Int) + (t : Int)) = (j : Int) := by rw [show (b : Int) + (t : Int) = (j : Int) by omega]; exact IntWalk.i64_in _ (by omega)
      have ht : t + 1 ≤ m := by omega
      have hmx : m ≤ 9223372036854775807 := by omega
      clear hn hX hA hB hM hie hje
      have hinf : (Try.prog.info? 86).map (·.size) = some 6 := by kernel_rfl
      have hLn := R.out.len
      have SW := Lib.hid (R.out.drew.swap (i := i) (j := j) (by omega) (by omega))
      have CI := own_ag R.out.own i (by omega)
      have CJ := own_ag R.out.own j (by omega)
      have P1 := (putAg_own R.out.drew.own (show i < (P ++ (Y.take t ++ X.drop t) ++ M ++ (X.take t ++ Y.drop t) ++ S).length by omega) (ael (P ++ (Y.take t ++ X.drop t) ++ M ++ (X.take t ++ Y.drop t) ++ S) j).win (ael (P ++ (Y.take t ++ X.drop t) ++ M ++ (X.take t ++ Y.drop t) ++ S) j).key (ael (P ++ (Y.take t ++ X.drop t) ++ M ++ (X.take t ++ Y.drop t) ++ S) j).cnt (ael (P ++ (Y.take t ++ X.drop t) ++ M ++ (X.take t ++ Y.drop t) ++ S) j).sum (ael (P ++ (Y.take t ++ X.drop t) ++ M ++ (X.take t ++ Y.drop t) ++ S) j).mn (ael (P ++ (Y.take t ++ X.drop t) ++ M ++ (X.take t ++ Y.drop t) ++ S) j).mx).1
      have T1 := Lib.hid (there_ownA R.out.drew.own (show i < (P ++ (Y.take t ++ X.drop t) ++ M ++ (X.take t ++ Y.drop t) ++ S).length by omega))
      have T2 := Lib.hid (there_ownA P1 (show j < ((P ++ (Y.take t ++ X.drop t) ++ M ++ (X.take t ++ Y.drop t) ++ S).set i _).length by rw [List.length_set]; omega))
      clear P1
      have hi0 : (0 : Int) ≤ (i : Int) := by omega
      have hi1 : (i : Int) < (n : Int) := by omega
      have hj0 : (0 : Int) ≤ (j : Int) := by omega
      have hj1 : (j : Int) < (n : Int) := by omega
      clear hLn
      generalize P ++ (Y.take t ++ X.drop t) ++ M ++ (X.take t ++ Y.drop t) ++ S = L at SW CI CJ T1 T2 NX
      generalize ael L i = X9 at SW CI T1 T2
      generalize ael L j = Y9 at SW CJ T1 T2
      obtain ⟨u0, u1, u2, u3, u4, u5⟩ := X9
      obtain ⟨v0, v1, v2, v3, v4, v5⟩ := Y9
      simp only at SW CI CJ T1 T2
      obtain ⟨a0, a1, a2, a3, a4, a5⟩ := CI
      obtain ⟨b0, b1, b2, b3, b4, b5⟩ := CJ
      go_wp2_with fail
      refine wp_region_any (by kernel_rfl) ?_
      change wpAny _ _ _ _ _ _ _ (World.drew _)
      refine wpAny_take (oi := ⟨some 16, _, _, _, _, _⟩) (i := 0) (v := (.slice (some ⟨g, 0, none⟩) n c)) rfl (by kernel_rfl) (by kernel_rfl) (by kernel_rfl) (fun _ _ _ h => h) (Or.inl ⟨by kernel_rfl, fun w => by go_simp⟩) ?_
      go_simp
      refine wpAny_take (oi := ⟨some 17, _, _, _, _, _⟩) (i := 1) (v := .int .i64 (a : Int)) rfl (by kernel_rfl) (by kernel_rfl) (by kernel_rfl) (fun _ _ _ h => h) (Or.inl ⟨by kernel_rfl, fun w => by go_simp⟩) ?_
      go_simp
      refine wpAny_take (oi := ⟨some 18, _, _, _, _, _⟩) (i := 2) (v := .int .i64 (t : Int)) rfl (by kernel_rfl) (by kernel_rfl) (by kernel_rfl) (fun _ _ _ h => h) (Or.inl ⟨by kernel_rfl, fun w => by go_simp⟩) ?_
      go_simp
      refine wpAny_take (oi := ⟨some 19, _, _, _, _, _⟩) (i := 3) (v := .int .i64 (i : Int)) rfl (by kernel_rfl) (by kernel_rfl) (by kernel_rfl) (fun _ _ _ h => h) (Or.inl ⟨by kernel_rfl, fun w => by go_simp⟩) ?_
      go_simp
      refine wpAny_take (oi := ⟨some 20, _, _, _, _, _⟩) (i := 4) (v := (.slice (some ⟨g, 0, none⟩) n c)) rfl (by kernel_rfl) (by kernel_rfl) (by kernel_rfl) (fun _ _ _ h => h) (Or.inl ⟨by kernel_rfl, fun w => by go_simp⟩) ?_
      go_simp
      refine wpAny_take (oi := ⟨some 21, _, _, _, _, _⟩) (i := 5) (v := .int .i64 (b : Int)) rfl (by kernel_rfl) (by kernel_rfl) (by kernel_rfl) (fun _ _ _ h => h) (Or.inl ⟨by kernel_rfl, fun w => by go_simp⟩) ?_
      go_simp
      refine wpAny_take (oi := ⟨some 22, _, _, _, _, _⟩) (i := 6) (v := .int .i64 (t : Int)) rfl (by kernel_rfl) (by kernel_rfl) (by kernel_rfl) (fun _ _ _ h => h) (Or.inl ⟨by kernel_rfl, fun w => by go_simp⟩) ?_
      go_simp
      refine wpAny_take (oi := ⟨some 23, _, _, _, _, _⟩) (i := 7) (v := .int .i64 (j : Int)) rfl (by kernel_rfl) (by kernel_rfl) (by kernel_rfl) (fun _ _ _ h => h) (Or.inl ⟨by kernel_rfl, fun w => by go_simp⟩) ?_
      go_simp
      refine wpAny_take (oi := ⟨some 24, _, _, _, _, _⟩) (i := 8) (v := (.slice (some ⟨g, 0, none⟩) n c)) rfl (by kernel_rfl) (by kernel_rfl) (by kernel_rfl) (fun _ _ _ h => h) (Or.inl ⟨by kernel_rfl, fun w => by go_simp⟩) ?_
      go_simp
      refine wpAny_take (oi := ⟨some 25, _, _, _, _, _⟩) (i := 9) (v := .int .i64 (b : Int)) rfl (by kernel_rfl) (by kernel_rfl) (by kernel_rfl) (fun _ _ _ h => h) (Or.inl ⟨by kernel_rfl, fun w => by go_simp⟩) ?_
      go_simp
      refine wpAny_take (oi := ⟨some 26, _, _, _, _, _⟩) (i := 10) (v := .int .i64 (t : Int)) rfl (by kernel_rfl) (by kernel_rfl) (by kernel_rfl) (fun _ _ _ h => h) (Or.inl ⟨by kernel_rfl, fun w => by go_simp⟩) ?_
      go_simp
      refine wpAny_take (oi := ⟨some 27, _, _, _, _, _⟩) (i := 11) (v := .int .i64 (j : Int)) rfl (by kernel_rfl) (by kernel_rfl) (by kernel_rfl) (fun _ _ _ h => h) (Or.inl ⟨by kernel_rfl, fun w => by go_simp⟩) ?_
      go_simp
      refine wpAny_take (oi := ⟨some 28, _, _, _, _, _⟩) (i := 12) (v := .pointer (some ⟨g, j * 6, none⟩)) rfl (by kernel_rfl) (by kernel_rfl) (by kernel_rfl) (fun _ _ _ h => h) (Or.inl ⟨by kernel_rfl, fun w => by go_simp⟩) ?_
      go_simp
      refine wpAny_take (oi := ⟨some 30, _, _, _, _, _⟩) (i := 14) (v := (.slice (some ⟨g, 0, none⟩) n c)) rfl (by kernel_rfl) (by kernel_rfl) (by kernel_rfl) (fun _ _ _ h => h) (Or.inl ⟨by kernel_rfl, fun w => by go_simp⟩) ?_
      go_simp
      refine wpAny_take (oi := ⟨some 31, _, _, _, _, _⟩) (i := 15) (v := .int .i64 (a : Int)) rfl (by kernel_rfl) (by kernel_rfl) (by kernel_rfl) (fun _ _ _ h => h) (Or.inl ⟨by kernel_rfl, fun w => by go_simp⟩) ?_
      go_simp
      refine wpAny_take (oi := ⟨some 32, _, _, _, _, _⟩) (i := 16) (v := .int .i64 (t : Int)) rfl (by kernel_rfl) (by kernel_rfl) (by kernel_rfl) (fun _ _ _ h => h) (Or.inl ⟨by kernel_rfl, fun w => by go_simp⟩) ?_
      go_simp
      refine wpAny_take (oi := ⟨some 33, _, _, _, _, _⟩) (i := 17) (v := .int .i64 (i : Int)) rfl (by kernel_rfl) (by kernel_rfl) (by kernel_rfl) (fun _ _ _ h => h) (Or.inl ⟨by kernel_rfl, fun w => by go_simp⟩) ?_
      go_simp
      refine wpAny_take (oi := ⟨some 34, _, _, _, _, _⟩) (i := 18) (v := .pointer (some ⟨g, i * 6, none⟩)) rfl (by kernel_rfl) (by kernel_rfl) (by kernel_rfl) (fun _ _ _ h => h) (Or.inl ⟨by kernel_rfl, fun w => by go_simp⟩) ?_
      go_simp
      refine wpAny_ready (rs := [13, 19]) (by kernel_rfl) (by simp) ?_
      refine AllReady.cons rfl (fun K hK => ?_) (AllReady.cons rfl (fun K hK => ?_) AllReady.nil)
      · go_simp
        refine hK _ _ ?_
        clear hK K
        refine wpAny_ready (rs := [19]) (by kernel_rfl) (by simp) ?_
        refine AllReady.cons rfl (fun K hK => ?_) AllReady.nil
        go_simp
        refine hK _ _ ?_
        clear hK K
        refine wpAny_take (oi := ⟨some 36, _, _, _, _, _⟩) (i := 20) (v := .pointer (some ⟨g, i * 6, none⟩)) rfl (by kernel_rfl) (by kernel_rfl) (by kernel_rfl) (fun _ _ _ h => h) (Or.inl ⟨by kernel_rfl, fun w => by go_simp⟩) ?_
        go_simp
        refine wpAny_ready (rs := [21]) (by kernel_rfl) (by simp) ?_
        refine AllReady.cons rfl (fun K hK => ?_) AllReady.nil
        rw [if_pos (by rfl)]
        refine wp_store_mid _ _ _ rfl g (i * 6) #[.int .i64 v0, .int .i64 v1, .int .i64 v2, .int .i64 v3, .int .i64 v4, .int .i64 v5] rfl rfl T1.out hinf (by simp [Value.oneCell']) ?_
        refine hK _ _ ?_
        clear hK K
        change wpAny _ _ _ _ _ _ _ (World.setCells (World.drew _) g (i * 6) [.int .i64 v0, .int .i64 v1, .int .i64 v2, .int .i64 v3, .int .i64 v4, .int .i64 v5])
        rw [setCells_putA]
        generalize hW5 : putAg wr.drew g (i * 6) v0 v1 v2 v3 v4 v5 = W5 at T2 ⊢
        have HW5 := Lib.hid hW5
        clear hW5
        refine wpAny_take (oi := ⟨some 37, _, _, _, _, _⟩) (i := 22) (v := .pointer (some ⟨g, j * 6, none⟩)) rfl (by kernel_rfl) (by kernel_rfl) (by kernel_rfl) (fun _ _ _ h => h) (Or.inl ⟨by kernel_rfl, fun w => by go_simp⟩) ?_
        go_simp
        refine wpAny_ready (rs := [23]) (by kernel_rfl) (by simp) ?_
        refine AllReady.cons rfl (fun K hK => ?_) AllReady.nil
        rw [if_pos (by rfl)]
        refine wp_store_mid _ _ _ rfl g (j * 6) #[.int .i64 u0, .int .i64 u1, .int .i64 u2, .int .i64 u3, .int .i64 u4, .int .i64 u5] rfl rfl T2.out hinf (by simp [Value.oneCell']) ?_
        refine hK _ _ ?_
        clear hK K
        change wpAny _ _ _ _ _ _ _ (World.setCells _ g (j * 6) [.int .i64 u0, .int .i64 u1, .int .i64 u2, .int .i64 u3, .int .i64 u4, .int .i64 u5])
        rw [setCells_putA]
        refine wpAny_done (by kernel_rfl) ?_ _
        generalize hW6 : putAg W5 g (j * 6) u0 u1 u2 u3 u4 u5 = W6
        have HW6 := Lib.hid (hW6.symm.trans (by rw [← HW5.out]))
        clear hW6 HW5
        go_wp2
        go_roundw
        case rel => exact ⟨t + 1, by go_num, ht, by rw [HW6.out, ← NX.out]; exact SW.out⟩
        case measure => simp [intOf]; omega
      · go_simp
        refine hK _ _ ?_
        clear hK K
        refine wpAny_ready (rs := [13]) (by kernel_rfl) (by simp) ?_
        refine AllReady.cons rfl (fun K hK => ?_) AllReady.nil
        go_simp
        refine hK _ _ ?_
        clear hK K
        refine wpAny_take (oi := ⟨some 36, _, _, _, _, _⟩) (i := 20) (v := .pointer (some ⟨g, i * 6, none⟩)) rfl (by kernel_rfl) (by kernel_rfl) (by kernel_rfl) (fun _ _ _ h => h) (Or.inl ⟨by kernel_rfl, fun w => by go_simp⟩) ?_
        go_simp
        refine wpAny_ready (rs := [21]) (by kernel_rfl) (by simp) ?_
        refine AllReady.cons rfl (fun K hK => ?_) AllReady.nil
        rw [if_pos (by rfl)]
        refine wp_store_mid _ _ _ rfl g (i * 6) #[.int .i64 v0, .int .i64 v1, .int .i64 v2, .int .i64 v3, .int .i64 v4, .int .i64 v5] rfl rfl T1.out hinf (by simp [Value.oneCell']) ?_
        refine hK _ _ ?_
        clear hK K
        change wpAny _ _ _ _ _ _ _ (World.setCells (World.drew _) g (i * 6) [.int .i64 v0, .int .i64 v1, .int .i64 v2, .int .i64 v3, .int .i64 v4, .int .i64 v5])
        rw [setCells_putA]
        generalize hW5 : putAg wr.drew g (i * 6) v0 v1 v2 v3 v4 v5 = W5 at T2 ⊢
        have HW5 := Lib.hid hW5
        clear hW5
        refine wpAny_take (oi := ⟨some 37, _, _, _, _, _⟩) (i := 22) (v := .pointer (some ⟨g, j * 6, none⟩)) rfl (by kernel_rfl) (by kernel_rfl) (by kernel_rfl) (fun _ _ _ h => h) (Or.inl ⟨by kernel_rfl, fun w => by go_simp⟩) ?_
        go_simp
        refine wpAny_ready (rs := [23]) (by kernel_rfl) (by simp) ?_
        refine AllReady.cons rfl (fun K hK => ?_) AllReady.nil
        rw [if_pos (by rfl)]
        refine wp_store_mid _ _ _ rfl g (j * 6) #[.int .i64 u0, .int .i64 u1, .int .i64 u2, .int .i64 u3, .int .i64 u4, .int .i64 u5] rfl rfl T2.out hinf (by simp [Value.oneCell']) ?_
        refine hK _ _ ?_
        clear hK K
        change wpAny _ _ _ _ _ _ _ (World.setCells _ g (j * 6) [.int .i64 u0, .int .i64 u1, .int .i64 u2, .int .i64 u3, .int .i64 u4, .int .i64 u5])
        rw [setCells_putA]
        refine wpAny_done (by kernel_rfl) ?_ _
        generalize hW6 : putAg W5 g (j * 6) u0 u1 u2 u3 u4 u5 = W6
        have HW6 := Lib.hid (hW6.symm.trans (by rw [← HW5.out]))
        clear hW6 HW5
        go_wp2
        go_roundw
        case rel => exact ⟨t + 1, by go_num, ht, by rw [HW6.out, ← NX.out]; exact SW.out⟩
        case measure => simp [intOf]; omega
    · have hd : ¬ (t : Int) < (m : Int) := by omega
      obtain rfl : t = m := by omega
      go_wp2
      go_end0
      refine ⟨rfl, ?_⟩
      have e1 : Y.take t = Y := List.take_of_length_le (by have := hXYh.out; have := hmh.out; omega)
      have e2 : X.take t = X := List.take_of_length_le (by have := hmh.out; omega)
      have e3 : X.drop t = [] := List.drop_eq_nil_of_le (by have := hmh.out; omega)
      have e4 : Y.drop t = [] := List.drop_eq_nil_of_le (by have := hXYh.out; have := hmh.out; omega)
      have := R.out
      rw [e1, e2, e3, e4] at this
      simpa using this

end Go.Proofs.Ytchbmnpajnlijaa
