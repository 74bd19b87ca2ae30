/- DrainBound on both sides. (made by tools/mkdrain.py) -/
import Derived.Deep.RegionHeld3
import Derived.Test.YtnfhlfbkdhpacaaGreatDoorLeft2
import Derived.Test.YtnfhlfbkdhpacaaGreatDoorEngCnt
import Derived.Test.YtnfhlfbkdhpacaaGreatDoorSafe5
namespace Go.Proofs.YtnfhlfbkdhpacaaGreatDoor
open Go.RowKit

noncomputable def drE (E : En) : Int := if safeE E = true then 3 * (((frT E.cs E.cs.length : Nat) : Int) + (E.inq.length : Int) + ((totH hdMq ([] : List Mq) E.qs E.qs.length : Nat) : Int)) + 2 * (((totH hdSh shD E.sh E.sh.length : Nat) : Int) + (E.out.length : Int)) + 4 * (E.sh.length : Int) + 10 else -1
theorem dr_no {E : En} (h : safeE E = false) : drE E = -1 := by simp [drE, h]
theorem dr_yes {E : En} (h : safeE E = true) : drE E = 3 * (((frT E.cs E.cs.length : Nat) : Int) + (E.inq.length : Int) + ((totH hdMq ([] : List Mq) E.qs E.qs.length : Nat) : Int)) + 2 * (((totH hdSh shD E.sh E.sh.length : Nat) : Int) + (E.out.length : Int)) + 4 * (E.sh.length : Int) + 10 := by simp [drE, h]
set_option maxHeartbeats 16000000 in
set_option maxRecDepth 100000 in
theorem implDrain_any (E : En) (q : Pl) (L : List Value) (hi : Nat) (aB aS : Addr) (w : World) (hL : L = evL E q) (hr : EnR w w.heap.size q E) (hf : EnFits E) (hB : EnB E) (ht : Flt w w.heap.size aB aS) (hb0 : Tabs w hi) (hhi : hi ≤ w.heap.size) :
    Calls Tryz.prog 20 #[.agg L.toArray] w fun e w' => e = .returned (.int .i64 (drE E)) ∧ Below w.heap.size w w' := by
  have k0 := Blk.new w 45 L.toArray
  have b1 := (Below.refl w.heap.size w).alloc (Nat.le_refl _) (.cells L.toArray 45)
  have hlen : L.length = 24 := by rw [hL]; rfl
  have IL : Hid ((Tryz.prog.info? 45).map (·.size) = some L.length) := Lib.hid (by rw [hlen]; kernel_rfl)
  have KK := Lib.hid k0
  have BB := Lib.hid b1
  have HL := Lib.hid hL
  have HRW : Hid (∀ W, Below w.heap.size w W → EnR W W.heap.size q E) := Lib.hid (fun W hW => (hr.below hW).more hW.size)
  have E12 : Hid (L.toArray[12]? = some (.slice q.a1 E.inq.length q.c1)) := Lib.hid (by rw [hL]; rfl)
  have E14 : Hid (L.toArray[14]? = some (.slice q.a3 E.sh.length q.c3)) := Lib.hid (by rw [hL]; rfl)
  have E15 : Hid (L.toArray[15]? = some (.slice q.a4 E.out.length q.c4)) := Lib.hid (by rw [hL]; rfl)
  have HSF : Hid (∀ W, Below w.heap.size w W → Calls Tryz.prog 67 #[.agg L.toArray] W fun e w' => e = .returned (.bool (safeE E)) ∧ Below W.heap.size W w') := Lib.hid (fun W hW => implSafe_any E q L hi W hL (HRW.out W hW) (hb0.below (hW.mono hhi)) (Nat.le_trans hhi hW.size))
  have HFL : Hid (∀ W, Below w.heap.size w W → Calls Tryz.prog 18 #[.agg L.toArray] W fun e w' => e = .returned (.int .i64 ((frT E.cs E.cs.length : Nat) : Int)) ∧ Below W.heap.size W w') := Lib.hid (fun W hW => implLeft_any E q L aB aS W hL (HRW.out W hW) hf hB ((ht.below hW).more hW.size))
  have HQ : Hid (∀ W, Below w.heap.size w W → Calls Tryz.prog 68 #[.agg L.toArray] W fun e w' => e = .returned (.int .i64 ((totH hdMq ([] : List Mq) E.qs E.qs.length : Nat) : Int)) ∧ Below W.heap.size W w') := Lib.hid (fun W hW => implQd_any E q L W hL (HRW.out W hW) hf)
  have HH : Hid (∀ W, Below w.heap.size w W → Calls Tryz.prog 69 #[.agg L.toArray] W fun e w' => e = .returned (.int .i64 ((totH hdSh shD E.sh E.sh.length : Nat) : Int)) ∧ Below W.heap.size W w') := Lib.hid (fun W hW => implSums_any E q L W hL (HRW.out W hW) hf)
  have ZY := Lib.hid (dr_yes (E := E))
  have ZN := Lib.hid (dr_no (E := E))
  have hfr := frT_le E.cs E.cs.length
  unfold EnFits at hf
  have z0 : (0 : Int) ≤ ((frT E.cs E.cs.length : Nat) : Int) ∧ ((frT E.cs E.cs.length : Nat) : Int) ≤ 2097152 := by omega
  have z1 : (0 : Int) ≤ (E.inq.length : Int) ∧ (E.inq.length : Int) ≤ 2097152 := by omega
  have z2 : (0 : Int) ≤ ((totH hdMq ([] : List Mq) E.qs E.qs.length : Nat) : Int) ∧ ((totH hdMq ([] : List Mq) E.qs E.qs.length : Nat) : Int) ≤ 2097152 := by omega
  have z3 : (0 : Int) ≤ ((totH hdSh shD E.sh E.sh.length : Nat) : Int) ∧ ((totH hdSh shD E.sh E.sh.length : Nat) : Int) ≤ 2097152 := by omega
  have z4 : (0 : Int) ≤ (E.out.length : Int) ∧ (E.out.length : Int) ≤ 2097152 := by omega
  have z5 : (0 : Int) ≤ (E.sh.length : Int) ∧ (E.sh.length : Int) ≤ 2097152 := by omega
  clear hr hf hB hL k0 b1 hlen hfr ht hb0 hhi
  generalize drE E = ans at *
  generalize safeE E = sf at HSF ZY ZN
  generalize ((frT E.cs E.cs.length : Nat) : Int) = nF at HFL ZY z0
  generalize ((totH hdMq ([] : List Mq) E.qs E.qs.length : Nat) : Int) = nQ at HQ ZY z2
  generalize ((totH hdSh shD E.sh E.sh.length : Nat) : Int) = nH at HH ZY z3
  obtain ⟨nI, hnI⟩ : ∃ nI : Int, nI = (E.inq.length : Int) := ⟨_, rfl⟩
  obtain ⟨nO, hnO⟩ : ∃ nO : Int, nO = (E.out.length : Int) := ⟨_, rfl⟩
  rw [← hnI] at ZY z1
  rw [← hnO] at ZY z4
  obtain ⟨z0a, z0b⟩ := z0
  obtain ⟨z1a, z1b⟩ := z1
  obtain ⟨z2a, z2b⟩ := z2
  obtain ⟨z3a, z3b⟩ := z3
  obtain ⟨z4a, z4b⟩ := z4
  obtain ⟨z5a, z5b⟩ := z5
  obtain ⟨s1, h1⟩ : ∃ s, s = nF + nI := ⟨_, rfl⟩
  obtain ⟨s2, h2⟩ : ∃ s, s = s1 + nQ := ⟨_, rfl⟩
  obtain ⟨s3, h3⟩ : ∃ s, s = nH + nO := ⟨_, rfl⟩
  have b1a : 0 ≤ s1 ∧ s1 ≤ 4194304 := by omega
  have b2a : 0 ≤ s2 ∧ s2 ≤ 6291456 := by omega
  have b3a : 0 ≤ s3 ∧ s3 ≤ 4194304 := by omega
  have N1 : Hid (IntKind.i64.wrap (nF + nI) = s1) := Lib.hid (by rw [← h1]; exact IntWalk.i64_in _ (by omega))
  have N2 : Hid (IntKind.i64.wrap (s1 + nQ) = s2) := Lib.hid (by rw [← h2]; exact IntWalk.i64_in _ (by omega))
  have N3 : Hid (IntKind.i64.wrap (nH + nO) = s3) := Lib.hid (by rw [← h3]; exact IntWalk.i64_in _ (by omega))
  have ANS : Hid (sf = true → ans = 3 * s2 + 2 * s3 + 4 * (E.sh.length : Int) + 10) := Lib.hid (fun h => by rw [ZY.out h]; omega)
  have HNI := Lib.hid hnI
  have HNO := Lib.hid hnO
  obtain ⟨b2b, b2c⟩ := b2a
  obtain ⟨b3b, b3c⟩ := b3a
  clear h1 h2 h3 hnI hnO b1a z0a z0b z1a z1b z2a z2b z3a z3b z4a z4b
  go_enter Tryz.func20, Tryz.ntmps20
  have RG := Lib.hid (range_blk KK.out)
  go_wp2_with (refine wpList_load_mid rfl 45 _ rfl w.heap.size 0 rfl L _ RG.out Tryz.underlying45 rfl IL.out ?_)
  refine (HSF.out _ BB.out).mono ?_
  rintro e w1 ⟨rfl, hb⟩
  have KK := Lib.hid (KK.out.below hb)
  have BB := Lib.hid (BB.out.trans (hb.mono BB.out.size))
  clear hb RG
  cases sf with
  | false =>
    have ZZ := Lib.hid (ZN.out rfl)
    go_wp2
    go_ret
    exact ⟨by rw [ZZ.out]; rfl, BB.out⟩
  | true =>
  have ZZ := Lib.hid (ANS.out rfl)
  have hund : Tryz.prog.underlying 45 = some _ := Tryz.underlying45
  have y0 := KK.out
  go_wp2_with fail
  refine wp_region_held_drew (S := fun W => Blk W w.heap.size 45 L.toArray) (by kernel_rfl) y0 (fun hHeld => ?_)
  have KK := Lib.hid KK.out.drew
  have BB := Lib.hid BB.out.drew
  refine' wpAnyH_take (i := 0) (oi := ⟨some 8, _, _, _, _, _⟩) (v := _) rfl (by kernel_rfl) (by kernel_rfl) (by kernel_rfl) (fun _ _ _ h => h) (yieldsIf_load_mid (by rfl) _ _ rfl _ _ rfl L _ (fun W h => range_blk h) hund rfl IL.out) hHeld ?_
  simp only [Act.put, List.setIfInBounds_toArray, List.set_cons_zero, List.set_cons_succ]
  refine' wpAnyH_take (i := 2) (oi := ⟨some 10, _, _, _, _, _⟩) (v := .pointer (some ⟨w.heap.size, 12, none⟩)) rfl (by kernel_rfl) (by kernel_rfl) (by kernel_rfl) (fun _ _ _ h => h) (.inl ⟨by kernel_rfl, fun W hW => by go_simp⟩) hHeld ?_
  simp only [Act.put, List.setIfInBounds_toArray, List.set_cons_zero, List.set_cons_succ]
  refine' wpAnyH_take (i := 3) (oi := ⟨some 11, _, _, _, _, _⟩) (v := .slice q.a1 E.inq.length q.c1) rfl (by kernel_rfl) (by kernel_rfl) (by kernel_rfl) (fun _ _ _ h => h) (.inl ⟨by kernel_rfl, fun W hW => by have g := (Blk.cell hW 12).trans E12.out; go_simp⟩) hHeld ?_
  simp only [Act.put, List.setIfInBounds_toArray, List.set_cons_zero, List.set_cons_succ]
  refine' wpAnyH_take (i := 4) (oi := ⟨some 12, _, _, _, _, _⟩) (v := .int .i64 nI) rfl (by kernel_rfl) (by kernel_rfl) (by kernel_rfl) (fun _ _ _ h => h) (.inl ⟨by kernel_rfl, fun W hW => by have g := HNI.out; go_simp⟩) hHeld ?_
  simp only [Act.put, List.setIfInBounds_toArray, List.set_cons_zero, List.set_cons_succ]
  refine' wpAnyH_take (i := 6) (oi := ⟨some 14, _, _, _, _, _⟩) (v := _) rfl (by kernel_rfl) (by kernel_rfl) (by kernel_rfl) (fun _ _ _ h => h) (yieldsIf_load_mid (by rfl) _ _ rfl _ _ rfl L _ (fun W h => range_blk h) hund rfl IL.out) hHeld ?_
  simp only [Act.put, List.setIfInBounds_toArray, List.set_cons_zero, List.set_cons_succ]
  refine wpAnyH_ready (rs := [1]) (by kernel_rfl) (by simp) ?_
  refine AllReadyH.cons (o := ⟨some 9, _, _, _, _, _⟩) rfl (fun KF hK => ?_) AllReadyH.nil
  go_simp
  refine (HFL.out _ BB.out).mono ?_
  rintro e w3 ⟨rfl, hb⟩
  clear y0 hHeld
  have KK := Lib.hid (KK.out.below hb)
  have BB := Lib.hid (BB.out.trans (hb.mono BB.out.size))
  clear hb
  have y0 := KK.out
  dsimp only
  refine (Go.Shut.out hK) _ _ y0 (fun hHeld => ?_)
  clear hK KF
  try simp only [Act.put, List.setIfInBounds_toArray, List.set_cons_zero, List.set_cons_succ]
  refine' wpAnyH_take (i := 5) (oi := ⟨some 13, _, _, _, _, _⟩) (v := .int .i64 s1) rfl (by kernel_rfl) (by kernel_rfl) (by kernel_rfl) (fun _ _ _ h => h) (.inl ⟨by kernel_rfl, fun W hW => by have g := N1.out; go_simp⟩) hHeld ?_
  simp only [Act.put, List.setIfInBounds_toArray, List.set_cons_zero, List.set_cons_succ]
  refine wpAnyH_ready (rs := [7]) (by kernel_rfl) (by simp) ?_
  refine AllReadyH.cons (o := ⟨some 15, _, _, _, _, _⟩) rfl (fun KF hK => ?_) AllReadyH.nil
  go_simp
  refine (HQ.out _ BB.out).mono ?_
  rintro e w3 ⟨rfl, hb⟩
  clear y0 hHeld
  have KK := Lib.hid (KK.out.below hb)
  have BB := Lib.hid (BB.out.trans (hb.mono BB.out.size))
  clear hb
  have y0 := KK.out
  dsimp only
  refine (Go.Shut.out hK) _ _ y0 (fun hHeld => ?_)
  clear hK KF
  try simp only [Act.put, List.setIfInBounds_toArray, List.set_cons_zero, List.set_cons_succ]
  refine' wpAnyH_take (i := 8) (oi := ⟨some 16, _, _, _, _, _⟩) (v := .int .i64 s2) rfl (by kernel_rfl) (by kernel_rfl) (by kernel_rfl) (fun _ _ _ h => h) (.inl ⟨by kernel_rfl, fun W hW => by have g := N2.out; go_simp⟩) hHeld ?_
  simp only [Act.put, List.setIfInBounds_toArray, List.set_cons_zero, List.set_cons_succ]
  refine' wpAnyH_take (i := 9) (oi := ⟨some 3, _, _, _, _, _⟩) (v := .int .i64 s2) rfl (by kernel_rfl) (by kernel_rfl) (by kernel_rfl) (fun _ _ _ h => h) (.inl ⟨by kernel_rfl, fun W hW => by go_simp⟩) hHeld ?_
  simp only [Act.put, List.setIfInBounds_toArray, List.set_cons_zero, List.set_cons_succ]
  refine wpAnyH_done (by kernel_rfl) ?_ _
  go_wp2_with fail
  refine wp_region_held_drew (S := fun W => Blk W w.heap.size 45 L.toArray) (by kernel_rfl) y0 (fun hHeld => ?_)
  have KK := Lib.hid KK.out.drew
  have BB := Lib.hid BB.out.drew
  refine' wpAnyH_take (i := 0) (oi := ⟨some 17, _, _, _, _, _⟩) (v := _) rfl (by kernel_rfl) (by kernel_rfl) (by kernel_rfl) (fun _ _ _ h => h) (yieldsIf_load_mid (by rfl) _ _ rfl _ _ rfl L _ (fun W h => range_blk h) hund rfl IL.out) hHeld ?_
  simp only [Act.put, List.setIfInBounds_toArray, List.set_cons_zero, List.set_cons_succ]
  refine' wpAnyH_take (i := 2) (oi := ⟨some 19, _, _, _, _, _⟩) (v := .pointer (some ⟨w.heap.size, 15, none⟩)) rfl (by kernel_rfl) (by kernel_rfl) (by kernel_rfl) (fun _ _ _ h => h) (.inl ⟨by kernel_rfl, fun W hW => by go_simp⟩) hHeld ?_
  simp only [Act.put, List.setIfInBounds_toArray, List.set_cons_zero, List.set_cons_succ]
  refine' wpAnyH_take (i := 3) (oi := ⟨some 20, _, _, _, _, _⟩) (v := .slice q.a4 E.out.length q.c4) rfl (by kernel_rfl) (by kernel_rfl) (by kernel_rfl) (fun _ _ _ h => h) (.inl ⟨by kernel_rfl, fun W hW => by have g := (Blk.cell hW 15).trans E15.out; go_simp⟩) hHeld ?_
  simp only [Act.put, List.setIfInBounds_toArray, List.set_cons_zero, List.set_cons_succ]
  refine' wpAnyH_take (i := 4) (oi := ⟨some 21, _, _, _, _, _⟩) (v := .int .i64 nO) rfl (by kernel_rfl) (by kernel_rfl) (by kernel_rfl) (fun _ _ _ h => h) (.inl ⟨by kernel_rfl, fun W hW => by have g := HNO.out; go_simp⟩) hHeld ?_
  simp only [Act.put, List.setIfInBounds_toArray, List.set_cons_zero, List.set_cons_succ]
  refine wpAnyH_ready (rs := [1]) (by kernel_rfl) (by simp) ?_
  refine AllReadyH.cons (o := ⟨some 18, _, _, _, _, _⟩) rfl (fun KF hK => ?_) AllReadyH.nil
  go_simp
  refine (HH.out _ BB.out).mono ?_
  rintro e w3 ⟨rfl, hb⟩
  clear y0 hHeld
  have KK := Lib.hid (KK.out.below hb)
  have BB := Lib.hid (BB.out.trans (hb.mono BB.out.size))
  clear hb
  have y0 := KK.out
  dsimp only
  refine (Go.Shut.out hK) _ _ y0 (fun hHeld => ?_)
  clear hK KF
  try simp only [Act.put, List.setIfInBounds_toArray, List.set_cons_zero, List.set_cons_succ]
  refine' wpAnyH_take (i := 5) (oi := ⟨some 22, _, _, _, _, _⟩) (v := .int .i64 s3) rfl (by kernel_rfl) (by kernel_rfl) (by kernel_rfl) (fun _ _ _ h => h) (.inl ⟨by kernel_rfl, fun W hW => by have g := N3.out; go_simp⟩) hHeld ?_
  simp only [Act.put, List.setIfInBounds_toArray, List.set_cons_zero, List.set_cons_succ]
  refine' wpAnyH_take (i := 6) (oi := ⟨some 4, _, _, _, _, _⟩) (v := .int .i64 s3) rfl (by kernel_rfl) (by kernel_rfl) (by kernel_rfl) (fun _ _ _ h => h) (.inl ⟨by kernel_rfl, fun W hW => by go_simp⟩) hHeld ?_
  simp only [Act.put, List.setIfInBounds_toArray, List.set_cons_zero, List.set_cons_succ]
  refine wpAnyH_done (by kernel_rfl) ?_ _
  clear y0 hHeld hund
  have c14 := (KK.out.cell 14).trans E14.out
  go_wp2
  go_ret
  exact ⟨by rw [ZZ.out]; rfl, BB.out⟩
set_option maxHeartbeats 16000000 in
set_option maxRecDepth 100000 in
theorem specDrain_any (E : En) (q : Pl) (L : List Value) (w : World) (hL : L = evL E q) (hr : EnR w w.heap.size q E) (hf : EnFits E) (hB : EnB E) :
    Calls Tryz.prog 19 #[.agg L.toArray] w fun e w' => e = .returned (.int .i64 (drE E)) ∧ Below w.heap.size w w' := by
  have k0 := Blk.new w 45 L.toArray
  have b1 := (Below.refl w.heap.size w).alloc (Nat.le_refl _) (.cells L.toArray 45)
  have hlen : L.length = 24 := by rw [hL]; rfl
  have IL : Hid ((Tryz.prog.info? 45).map (·.size) = some L.length) := Lib.hid (by rw [hlen]; kernel_rfl)
  have KK := Lib.hid k0
  have BB := Lib.hid b1
  have HL := Lib.hid hL
  have HRW : Hid (∀ W, Below w.heap.size w W → EnR W W.heap.size q E) := Lib.hid (fun W hW => (hr.below hW).more hW.size)
  have E12 : Hid (L.toArray[12]? = some (.slice q.a1 E.inq.length q.c1)) := Lib.hid (by rw [hL]; rfl)
  have E14 : Hid (L.toArray[14]? = some (.slice q.a3 E.sh.length q.c3)) := Lib.hid (by rw [hL]; rfl)
  have E15 : Hid (L.toArray[15]? = some (.slice q.a4 E.out.length q.c4)) := Lib.hid (by rw [hL]; rfl)
  have HSF : Hid (∀ W, Below w.heap.size w W → Calls Tryz.prog 31 #[.agg L.toArray] W fun e w' => e = .returned (.bool (safeE E)) ∧ Below W.heap.size W w') := Lib.hid (fun W hW => specSafe_any E q L W hL (HRW.out W hW))
  have HFL : Hid (∀ W, Below w.heap.size w W → Calls Tryz.prog 17 #[.agg L.toArray] W fun e w' => e = .returned (.int .i64 ((frT E.cs E.cs.length : Nat) : Int)) ∧ Below W.heap.size W w') := Lib.hid (fun W hW => specLeft_any E q L W hL (HRW.out W hW) hf hB)
  have HQ : Hid (∀ W, Below w.heap.size w W → Calls Tryz.prog 65 #[.agg L.toArray] W fun e w' => e = .returned (.int .i64 ((totH hdMq ([] : List Mq) E.qs E.qs.length : Nat) : Int)) ∧ Below W.heap.size W w') := Lib.hid (fun W hW => specQd_any E q L W hL (HRW.out W hW) hf)
  have HH : Hid (∀ W, Below w.heap.size w W → Calls Tryz.prog 66 #[.agg L.toArray] W fun e w' => e = .returned (.int .i64 ((totH hdSh shD E.sh E.sh.length : Nat) : Int)) ∧ Below W.heap.size W w') := Lib.hid (fun W hW => specHd_any E q L W hL (HRW.out W hW) hf)
  have ZY := Lib.hid (dr_yes (E := E))
  have ZN := Lib.hid (dr_no (E := E))
  have hfr := frT_le E.cs E.cs.length
  unfold EnFits at hf
  have z0 : (0 : Int) ≤ ((frT E.cs E.cs.length : Nat) : Int) ∧ ((frT E.cs E.cs.length : Nat) : Int) ≤ 2097152 := by omega
  have z1 : (0 : Int) ≤ (E.inq.length : Int) ∧ (E.inq.length : Int) ≤ 2097152 := by omega
  have z2 : (0 : Int) ≤ ((totH hdMq ([] : List Mq) E.qs E.qs.length : Nat) : Int) ∧ ((totH hdMq ([] : List Mq) E.qs E.qs.length : Nat) : Int) ≤ 2097152 := by omega
  have z3 : (0 : Int) ≤ ((totH hdSh shD E.sh E.sh.length : Nat) : Int) ∧ ((totH hdSh shD E.sh E.sh.length : Nat) : Int) ≤ 2097152 := by omega
  have z4 : (0 : Int) ≤ (E.out.length : Int) ∧ (E.out.length : Int) ≤ 2097152 := by omega
  have z5 : (0 : Int) ≤ (E.sh.length : Int) ∧ (E.sh.length : Int) ≤ 2097152 := by omega
  clear hr hf hB hL k0 b1 hlen hfr
  generalize drE E = ans at *
  generalize safeE E = sf at HSF ZY ZN
  generalize ((frT E.cs E.cs.length : Nat) : Int) = nF at HFL ZY z0
  generalize ((totH hdMq ([] : List Mq) E.qs E.qs.length : Nat) : Int) = nQ at HQ ZY z2
  generalize ((totH hdSh shD E.sh E.sh.length : Nat) : Int) = nH at HH ZY z3
  obtain ⟨nI, hnI⟩ : ∃ nI : Int, nI = (E.inq.length : Int) := ⟨_, rfl⟩
  obtain ⟨nO, hnO⟩ : ∃ nO : Int, nO = (E.out.length : Int) := ⟨_, rfl⟩
  rw [← hnI] at ZY z1
  rw [← hnO] at ZY z4
  obtain ⟨z0a, z0b⟩ := z0
  obtain ⟨z1a, z1b⟩ := z1
  obtain ⟨z2a, z2b⟩ := z2
  obtain ⟨z3a, z3b⟩ := z3
  obtain ⟨z4a, z4b⟩ := z4
  obtain ⟨z5a, z5b⟩ := z5
  obtain ⟨s1, h1⟩ : ∃ s, s = nF + nI := ⟨_, rfl⟩
  obtain ⟨s2, h2⟩ : ∃ s, s = s1 + nQ := ⟨_, rfl⟩
  obtain ⟨s3, h3⟩ : ∃ s, s = nH + nO := ⟨_, rfl⟩
  have b1a : 0 ≤ s1 ∧ s1 ≤ 4194304 := by omega
  have b2a : 0 ≤ s2 ∧ s2 ≤ 6291456 := by omega
  have b3a : 0 ≤ s3 ∧ s3 ≤ 4194304 := by omega
  have N1 : Hid (IntKind.i64.wrap (nF + nI) = s1) := Lib.hid (by rw [← h1]; exact IntWalk.i64_in _ (by omega))
  have N2 : Hid (IntKind.i64.wrap (s1 + nQ) = s2) := Lib.hid (by rw [← h2]; exact IntWalk.i64_in _ (by omega))
  have N3 : Hid (IntKind.i64.wrap (nH + nO) = s3) := Lib.hid (by rw [← h3]; exact IntWalk.i64_in _ (by omega))
  obtain ⟨m3, e3⟩ : ∃ s, s = 3 * s2 := ⟨_, rfl⟩
  obtain ⟨m2, e2⟩ : ∃ s, s = 2 * s3 := ⟨_, rfl⟩
  obtain ⟨s4, h4⟩ : ∃ s, s = m3 + m2 := ⟨_, rfl⟩
  obtain ⟨nS, hnS⟩ : ∃ nS : Int, nS = (E.sh.length : Int) := ⟨_, rfl⟩
  rw [← hnS] at ZY z5a z5b
  obtain ⟨m4, e4⟩ : ∃ s, s = 4 * nS := ⟨_, rfl⟩
  obtain ⟨s5, h5⟩ : ∃ s, s = s4 + m4 := ⟨_, rfl⟩
  obtain ⟨s6_, h6⟩ : ∃ s, s = s5 + 10 := ⟨_, rfl⟩
  have N4 : Hid (IntKind.i64.wrap (3 * s2) = m3) := Lib.hid (by rw [← e3]; exact IntWalk.i64_in _ (by omega))
  have N5 : Hid (IntKind.i64.wrap (2 * s3) = m2) := Lib.hid (by rw [← e2]; exact IntWalk.i64_in _ (by omega))
  have N6 : Hid (IntKind.i64.wrap (m3 + m2) = s4) := Lib.hid (by rw [← h4]; exact IntWalk.i64_in _ (by omega))
  have N7 : Hid (IntKind.i64.wrap (4 * nS) = m4) := Lib.hid (by rw [← e4]; exact IntWalk.i64_in _ (by omega))
  have N8 : Hid (IntKind.i64.wrap (s4 + m4) = s5) := Lib.hid (by rw [← h5]; exact IntWalk.i64_in _ (by omega))
  have N9 : Hid (IntKind.i64.wrap (s5 + 10) = s6_) := Lib.hid (by rw [← h6]; exact IntWalk.i64_in _ (by omega))
  have ANS : Hid (sf = true → ans = s6_) := Lib.hid (fun h => by rw [ZY.out h]; omega)
  have HNI := Lib.hid hnI
  have HNO := Lib.hid hnO
  have HNS := Lib.hid hnS
  clear h1 h2 h3 h4 h5 h6 e2 e3 e4 hnI hnO hnS b1a b2a b3a z0a z0b z1a z1b z2a z2b z3a z3b z4a z4b z5a z5b
  go_enter Tryz.func19, Tryz.ntmps19
  have RG := Lib.hid (range_blk KK.out)
  go_wp2_with (refine wpList_load_mid rfl 45 _ rfl w.heap.size 0 rfl L _ RG.out Tryz.underlying45 rfl IL.out ?_)
  refine (HSF.out _ BB.out).mono ?_
  rintro e w1 ⟨rfl, hb⟩
  have KK := Lib.hid (KK.out.below hb)
  have BB := Lib.hid (BB.out.trans (hb.mono BB.out.size))
  clear hb RG
  cases sf with
  | false =>
    have ZZ := Lib.hid (ZN.out rfl)
    go_wp2
    go_ret
    exact ⟨by rw [ZZ.out]; rfl, BB.out⟩
  | true =>
  have ZZ := Lib.hid (ANS.out rfl)
  have hund : Tryz.prog.underlying 45 = some _ := Tryz.underlying45
  have y0 := KK.out
  go_wp2_with fail
  refine wp_region_held_drew (S := fun W => Blk W w.heap.size 45 L.toArray) (by kernel_rfl) y0 (fun hHeld => ?_)
  have KK := Lib.hid KK.out.drew
  have BB := Lib.hid BB.out.drew
  refine' wpAnyH_take (i := 0) (oi := ⟨some 6, _, _, _, _, _⟩) (v := _) rfl (by kernel_rfl) (by kernel_rfl) (by kernel_rfl) (fun _ _ _ h => h) (yieldsIf_load_mid (by rfl) _ _ rfl _ _ rfl L _ (fun W h => range_blk h) hund rfl IL.out) hHeld ?_
  simp only [Act.put, List.setIfInBounds_toArray, List.set_cons_zero, List.set_cons_succ]
  refine' wpAnyH_take (i := 2) (oi := ⟨some 8, _, _, _, _, _⟩) (v := .pointer (some ⟨w.heap.size, 12, none⟩)) rfl (by kernel_rfl) (by kernel_rfl) (by kernel_rfl) (fun _ _ _ h => h) (.inl ⟨by kernel_rfl, fun W hW => by go_simp⟩) hHeld ?_
  simp only [Act.put, List.setIfInBounds_toArray, List.set_cons_zero, List.set_cons_succ]
  refine' wpAnyH_take (i := 3) (oi := ⟨some 9, _, _, _, _, _⟩) (v := .slice q.a1 E.inq.length q.c1) rfl (by kernel_rfl) (by kernel_rfl) (by kernel_rfl) (fun _ _ _ h => h) (.inl ⟨by kernel_rfl, fun W hW => by have g := (Blk.cell hW 12).trans E12.out; go_simp⟩) hHeld ?_
  simp only [Act.put, List.setIfInBounds_toArray, List.set_cons_zero, List.set_cons_succ]
  refine' wpAnyH_take (i := 4) (oi := ⟨some 10, _, _, _, _, _⟩) (v := .int .i64 nI) rfl (by kernel_rfl) (by kernel_rfl) (by kernel_rfl) (fun _ _ _ h => h) (.inl ⟨by kernel_rfl, fun W hW => by have g := HNI.out; go_simp⟩) hHeld ?_
  simp only [Act.put, List.setIfInBounds_toArray, List.set_cons_zero, List.set_cons_succ]
  refine' wpAnyH_take (i := 6) (oi := ⟨some 12, _, _, _, _, _⟩) (v := _) rfl (by kernel_rfl) (by kernel_rfl) (by kernel_rfl) (fun _ _ _ h => h) (yieldsIf_load_mid (by rfl) _ _ rfl _ _ rfl L _ (fun W h => range_blk h) hund rfl IL.out) hHeld ?_
  simp only [Act.put, List.setIfInBounds_toArray, List.set_cons_zero, List.set_cons_succ]
  refine' wpAnyH_take (i := 10) (oi := ⟨some 16, _, _, _, _, _⟩) (v := _) rfl (by kernel_rfl) (by kernel_rfl) (by kernel_rfl) (fun _ _ _ h => h) (yieldsIf_load_mid (by rfl) _ _ rfl _ _ rfl L _ (fun W h => range_blk h) hund rfl IL.out) hHeld ?_
  simp only [Act.put, List.setIfInBounds_toArray, List.set_cons_zero, List.set_cons_succ]
  refine' wpAnyH_take (i := 12) (oi := ⟨some 18, _, _, _, _, _⟩) (v := .pointer (some ⟨w.heap.size, 15, none⟩)) rfl (by kernel_rfl) (by kernel_rfl) (by kernel_rfl) (fun _ _ _ h => h) (.inl ⟨by kernel_rfl, fun W hW => by go_simp⟩) hHeld ?_
  simp only [Act.put, List.setIfInBounds_toArray, List.set_cons_zero, List.set_cons_succ]
  refine' wpAnyH_take (i := 13) (oi := ⟨some 19, _, _, _, _, _⟩) (v := .slice q.a4 E.out.length q.c4) rfl (by kernel_rfl) (by kernel_rfl) (by kernel_rfl) (fun _ _ _ h => h) (.inl ⟨by kernel_rfl, fun W hW => by have g := (Blk.cell hW 15).trans E15.out; go_simp⟩) hHeld ?_
  simp only [Act.put, List.setIfInBounds_toArray, List.set_cons_zero, List.set_cons_succ]
  refine' wpAnyH_take (i := 14) (oi := ⟨some 20, _, _, _, _, _⟩) (v := .int .i64 nO) rfl (by kernel_rfl) (by kernel_rfl) (by kernel_rfl) (fun _ _ _ h => h) (.inl ⟨by kernel_rfl, fun W hW => by have g := HNO.out; go_simp⟩) hHeld ?_
  simp only [Act.put, List.setIfInBounds_toArray, List.set_cons_zero, List.set_cons_succ]
  refine' wpAnyH_take (i := 18) (oi := ⟨some 24, _, _, _, _, _⟩) (v := .pointer (some ⟨w.heap.size, 14, none⟩)) rfl (by kernel_rfl) (by kernel_rfl) (by kernel_rfl) (fun _ _ _ h => h) (.inl ⟨by kernel_rfl, fun W hW => by go_simp⟩) hHeld ?_
  simp only [Act.put, List.setIfInBounds_toArray, List.set_cons_zero, List.set_cons_succ]
  refine' wpAnyH_take (i := 19) (oi := ⟨some 25, _, _, _, _, _⟩) (v := .slice q.a3 E.sh.length q.c3) rfl (by kernel_rfl) (by kernel_rfl) (by kernel_rfl) (fun _ _ _ h => h) (.inl ⟨by kernel_rfl, fun W hW => by have g := (Blk.cell hW 14).trans E14.out; go_simp⟩) hHeld ?_
  simp only [Act.put, List.setIfInBounds_toArray, List.set_cons_zero, List.set_cons_succ]
  refine' wpAnyH_take (i := 20) (oi := ⟨some 26, _, _, _, _, _⟩) (v := .int .i64 nS) rfl (by kernel_rfl) (by kernel_rfl) (by kernel_rfl) (fun _ _ _ h => h) (.inl ⟨by kernel_rfl, fun W hW => by have g := HNS.out; go_simp⟩) hHeld ?_
  simp only [Act.put, List.setIfInBounds_toArray, List.set_cons_zero, List.set_cons_succ]
  refine' wpAnyH_take (i := 21) (oi := ⟨some 27, _, _, _, _, _⟩) (v := .int .i64 m4) rfl (by kernel_rfl) (by kernel_rfl) (by kernel_rfl) (fun _ _ _ h => h) (.inl ⟨by kernel_rfl, fun W hW => by have g := N7.out; go_simp⟩) hHeld ?_
  simp only [Act.put, List.setIfInBounds_toArray, List.set_cons_zero, List.set_cons_succ]
  refine wpAnyH_ready (rs := [1]) (by kernel_rfl) (by simp) ?_
  refine AllReadyH.cons (o := ⟨some 7, _, _, _, _, _⟩) rfl (fun KF hK => ?_) AllReadyH.nil
  go_simp
  refine (HFL.out _ BB.out).mono ?_
  rintro e w3 ⟨rfl, hb⟩
  clear y0 hHeld
  have KK := Lib.hid (KK.out.below hb)
  have BB := Lib.hid (BB.out.trans (hb.mono BB.out.size))
  clear hb
  have y0 := KK.out
  dsimp only
  refine (Go.Shut.out hK) _ _ y0 (fun hHeld => ?_)
  clear hK KF
  try simp only [Act.put, List.setIfInBounds_toArray, List.set_cons_zero, List.set_cons_succ]
  refine' wpAnyH_take (i := 5) (oi := ⟨some 11, _, _, _, _, _⟩) (v := .int .i64 s1) rfl (by kernel_rfl) (by kernel_rfl) (by kernel_rfl) (fun _ _ _ h => h) (.inl ⟨by kernel_rfl, fun W hW => by have g := N1.out; go_simp⟩) hHeld ?_
  simp only [Act.put, List.setIfInBounds_toArray, List.set_cons_zero, List.set_cons_succ]
  refine wpAnyH_ready (rs := [7]) (by kernel_rfl) (by simp) ?_
  refine AllReadyH.cons (o := ⟨some 13, _, _, _, _, _⟩) rfl (fun KF hK => ?_) AllReadyH.nil
  go_simp
  refine (HQ.out _ BB.out).mono ?_
  rintro e w3 ⟨rfl, hb⟩
  clear y0 hHeld
  have KK := Lib.hid (KK.out.below hb)
  have BB := Lib.hid (BB.out.trans (hb.mono BB.out.size))
  clear hb
  have y0 := KK.out
  dsimp only
  refine (Go.Shut.out hK) _ _ y0 (fun hHeld => ?_)
  clear hK KF
  try simp only [Act.put, List.setIfInBounds_toArray, List.set_cons_zero, List.set_cons_succ]
  refine' wpAnyH_take (i := 8) (oi := ⟨some 14, _, _, _, _, _⟩) (v := .int .i64 s2) rfl (by kernel_rfl) (by kernel_rfl) (by kernel_rfl) (fun _ _ _ h => h) (.inl ⟨by kernel_rfl, fun W hW => by have g := N2.out; go_simp⟩) hHeld ?_
  simp only [Act.put, List.setIfInBounds_toArray, List.set_cons_zero, List.set_cons_succ]
  refine' wpAnyH_take (i := 9) (oi := ⟨some 15, _, _, _, _, _⟩) (v := .int .i64 m3) rfl (by kernel_rfl) (by kernel_rfl) (by kernel_rfl) (fun _ _ _ h => h) (.inl ⟨by kernel_rfl, fun W hW => by have g := N4.out; go_simp⟩) hHeld ?_
  simp only [Act.put, List.setIfInBounds_toArray, List.set_cons_zero, List.set_cons_succ]
  refine wpAnyH_ready (rs := [11]) (by kernel_rfl) (by simp) ?_
  refine AllReadyH.cons (o := ⟨some 17, _, _, _, _, _⟩) rfl (fun KF hK => ?_) AllReadyH.nil
  go_simp
  refine (HH.out _ BB.out).mono ?_
  rintro e w3 ⟨rfl, hb⟩
  clear y0 hHeld
  have KK := Lib.hid (KK.out.below hb)
  have BB := Lib.hid (BB.out.trans (hb.mono BB.out.size))
  clear hb
  have y0 := KK.out
  dsimp only
  refine (Go.Shut.out hK) _ _ y0 (fun hHeld => ?_)
  clear hK KF
  try simp only [Act.put, List.setIfInBounds_toArray, List.set_cons_zero, List.set_cons_succ]
  refine' wpAnyH_take (i := 15) (oi := ⟨some 21, _, _, _, _, _⟩) (v := .int .i64 s3) rfl (by kernel_rfl) (by kernel_rfl) (by kernel_rfl) (fun _ _ _ h => h) (.inl ⟨by kernel_rfl, fun W hW => by have g := N3.out; go_simp⟩) hHeld ?_
  simp only [Act.put, List.setIfInBounds_toArray, List.set_cons_zero, List.set_cons_succ]
  refine' wpAnyH_take (i := 16) (oi := ⟨some 22, _, _, _, _, _⟩) (v := .int .i64 m2) rfl (by kernel_rfl) (by kernel_rfl) (by kernel_rfl) (fun _ _ _ h => h) (.inl ⟨by kernel_rfl, fun W hW => by have g := N5.out; go_simp⟩) hHeld ?_
  simp only [Act.put, List.setIfInBounds_toArray, List.set_cons_zero, List.set_cons_succ]
  refine' wpAnyH_take (i := 17) (oi := ⟨some 23, _, _, _, _, _⟩) (v := .int .i64 s4) rfl (by kernel_rfl) (by kernel_rfl) (by kernel_rfl) (fun _ _ _ h => h) (.inl ⟨by kernel_rfl, fun W hW => by have g := N6.out; go_simp⟩) hHeld ?_
  simp only [Act.put, List.setIfInBounds_toArray, List.set_cons_zero, List.set_cons_succ]
  refine' wpAnyH_take (i := 22) (oi := ⟨some 28, _, _, _, _, _⟩) (v := .int .i64 s5) rfl (by kernel_rfl) (by kernel_rfl) (by kernel_rfl) (fun _ _ _ h => h) (.inl ⟨by kernel_rfl, fun W hW => by have g := N8.out; go_simp⟩) hHeld ?_
  simp only [Act.put, List.setIfInBounds_toArray, List.set_cons_zero, List.set_cons_succ]
  refine' wpAnyH_take (i := 23) (oi := ⟨some 29, _, _, _, _, _⟩) (v := .int .i64 s6_) rfl (by kernel_rfl) (by kernel_rfl) (by kernel_rfl) (fun _ _ _ h => h) (.inl ⟨by kernel_rfl, fun W hW => by have g := N9.out; go_simp⟩) hHeld ?_
  simp only [Act.put, List.setIfInBounds_toArray, List.set_cons_zero, List.set_cons_succ]
  refine' wpAnyH_take (i := 24) (oi := ⟨some 2, _, _, _, _, _⟩) (v := .int .i64 s6_) rfl (by kernel_rfl) (by kernel_rfl) (by kernel_rfl) (fun _ _ _ h => h) (.inl ⟨by kernel_rfl, fun W hW => by go_simp⟩) hHeld ?_
  simp only [Act.put, List.setIfInBounds_toArray, List.set_cons_zero, List.set_cons_succ]
  refine wpAnyH_done (by kernel_rfl) ?_ _
  clear y0 hHeld hund
  go_wp2
  go_ret
  exact ⟨by rw [ZZ.out]; rfl, BB.out⟩
end Go.Proofs.YtnfhlfbkdhpacaaGreatDoor
