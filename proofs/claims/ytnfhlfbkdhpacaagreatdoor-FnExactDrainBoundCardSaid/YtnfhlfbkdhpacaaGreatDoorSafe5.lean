/- spec.EngineSafe. (made by tools/mksafe5.py) -/
import Derived.Test.YtnfhlfbkdhpacaaGreatDoorSafe4
namespace Go.Proofs.YtnfhlfbkdhpacaaGreatDoor
open Go.RowKit

noncomputable def restOk (E : En) (j : Nat) : Bool := sokB (rel shD E.sh j).l (rel shD E.sh j).mr (rel shD E.sh j).lt (rel shD E.sh j).ov && (decide (((rel shD E.sh j).l.length : Int) ≤ E.s8) && (decide ((rel shD E.sh j).mr ≤ el E.sent j) && decide (el E.sent j ≤ E.mark)))
/-- What spec asks of a place in its first loop. -/
noncomputable def preOk (E : En) (j : Nat) : Bool := decide (((rel [] E.qs j).length : Int) ≤ E.s6) && restOk E j
theorem shOk_eq (E : En) (j : Nat) : shOk E j = (qOk true E.s6 (rel [] E.qs j) && restOk E j) := rfl
theorem pre_no {E : En} {j : Nat} (h : preOk E j = false) : shOk E j = false := by
  rw [shOk_eq]
  rcases Bool.and_eq_false_iff.1 h with h | h
  · rw [qOk_long (of_decide_eq_false h), Bool.false_and]
  · rw [h, Bool.and_false]
theorem pre_yes {E : En} {j : Nat} (h : preOk E j = true) (ha : ∀ i, i < (rel [] E.qs j).length → mqB true (qel (rel [] E.qs j) i) = true) : shOk E j = true := by
  rw [shOk_eq]
  unfold preOk at h
  simp only [Bool.and_eq_true, decide_eq_true_eq] at h
  rw [qOk_yes h.1 ha, h.2]
  rfl
theorem msg_no {E : En} {j i : Nat} (hi : i < (rel [] E.qs j).length) (h : mqB true (qel (rel [] E.qs j) i) = false) : shOk E j = false := by
  rw [shOk_eq, qOk_no hi h, Bool.false_and]
set_option maxHeartbeats 16000000 in
set_option maxRecDepth 100000 in
theorem specSafe_any (E : En) (q : Pl) (L : List Value) (w : World) (hL : L = evL E q) (hr : EnR w w.heap.size q E) :
    Calls Tryz.prog 31 #[.agg L.toArray] w fun e w' => e = .returned (.bool (safeE E)) ∧ Below w.heap.size w w' := by
  have k0 := Blk.new w 45 L.toArray
  have b1 := (Below.refl w.heap.size w).alloc (Nat.le_refl _) (.cells L.toArray 45)
  have b2 := b1.alloc b1.size (.cells #[.int .i64 E.s0, .int .i64 E.s1, .int .i64 E.s2, .int .i64 E.s3, .int .i64 E.s4, .int .i64 E.s5, .int .i64 E.s6, .int .i64 E.s7, .int .i64 E.s8] 37)
  have s0 := Blk.new (w.alloc (.cells L.toArray 45)) 37 #[.int .i64 E.s0, .int .i64 E.s1, .int .i64 E.s2, .int .i64 E.s3, .int .i64 E.s4, .int .i64 E.s5, .int .i64 E.s6, .int .i64 E.s7, .int .i64 E.s8]
  rw [World.size_alloc] at s0
  have B1 := Lib.hid b2
  have K0 := Lib.hid (k0.alloc (.cells #[.int .i64 E.s0, .int .i64 E.s1, .int .i64 E.s2, .int .i64 E.s3, .int .i64 E.s4, .int .i64 E.s5, .int .i64 E.s6, .int .i64 E.s7, .int .i64 E.s8] 37))
  have S0 := Lib.hid s0
  have HR := Lib.hid hr
  have HS := Lib.hid (fun (W : World) => specSetOk_x E.s0 E.s1 E.s2 E.s3 E.s4 E.s5 E.s6 E.s7 E.s8 W)
  have HM := Lib.hid (fun W => specIn_any E.mode 0 2 W)
  have Z1 := Lib.hid (safe_set (E := E))
  have Z2 := Lib.hid (safe_mode (E := E))
  have Z3 := Lib.hid (safe_parts (E := E))
  have Z4 := Lib.hid (fun j hj h => safe_sh (E := E) (j := j) hj (pre_no h))
  have Z4m := Lib.hid (fun (j : Nat) hj (i : Nat) hi h => safe_sh (E := E) (j := j) hj (msg_no (i := i) hi h))
  have Z5 := Lib.hid (fun j hj h => safe_con (E := E) (j := j) hj h)
  have Z6 := Lib.hid (safe_in (E := E))
  have Z7 := Lib.hid (safe_out (E := E))
  have ZY := Lib.hid (safe_yes (E := E))
  have e0 : L.toArray[0]? = some (.int .i64 E.s0) := by rw [hL]; rfl
  have e1 : L.toArray[1]? = some (.int .i64 E.s1) := by rw [hL]; rfl
  have e2 : L.toArray[2]? = some (.int .i64 E.s2) := by rw [hL]; rfl
  have e3 : L.toArray[3]? = some (.int .i64 E.s3) := by rw [hL]; rfl
  have e4 : L.toArray[4]? = some (.int .i64 E.s4) := by rw [hL]; rfl
  have e5 : L.toArray[5]? = some (.int .i64 E.s5) := by rw [hL]; rfl
  have e6 : L.toArray[6]? = some (.int .i64 E.s6) := by rw [hL]; rfl
  have e7 : L.toArray[7]? = some (.int .i64 E.s7) := by rw [hL]; rfl
  have e8 : L.toArray[8]? = some (.int .i64 E.s8) := by rw [hL]; rfl
  have e10 : L.toArray[10]? = some (.int .i64 E.mode) := by rw [hL]; rfl
  have e16 : L.toArray[16]? = some (.int .i64 E.mark) := by rw [hL]; rfl
  have e11 : L.toArray[11]? = some (.slice q.a0 E.cs.length q.c0) := by rw [hL]; rfl
  have e12 : L.toArray[12]? = some (.slice q.a1 E.inq.length q.c1) := by rw [hL]; rfl
  have e13 : L.toArray[13]? = some (.slice q.a2 E.qs.length q.c2) := by rw [hL]; rfl
  have e14 : L.toArray[14]? = some (.slice q.a3 E.sh.length q.c3) := by rw [hL]; rfl
  have e15 : L.toArray[15]? = some (.slice q.a4 E.out.length q.c4) := by rw [hL]; rfl
  have e17 : L.toArray[17]? = some (.slice q.a5 E.sent.length q.c5) := by rw [hL]; rfl
  have c0 := (k0.cell 0).trans e0
  have c1 := (k0.cell 1).trans e1
  have c2 := (k0.cell 2).trans e2
  have c3 := (k0.cell 3).trans e3
  have c4 := (k0.cell 4).trans e4
  have c5 := (k0.cell 5).trans e5
  have c6 := (k0.cell 6).trans e6
  have c7 := (k0.cell 7).trans e7
  have c8 := (k0.cell 8).trans e8
  have E10 := Lib.hid e10
  have E11 := Lib.hid e11
  have E12 := Lib.hid e12
  have E13 := Lib.hid e13
  have E14 := Lib.hid e14
  have E15 := Lib.hid e15
  have E16 := Lib.hid e16
  have E17 := Lib.hid e17
  have m_cs := hr.cs.cap
  have n_cs := hr.cs.big
  have m_inq := hr.inq.cap
  have n_inq := hr.inq.big
  have m_qs := hr.qs.cap
  have n_qs := hr.qs.big
  have m_sh := hr.sh.cap
  have n_sh := hr.sh.big
  have m_out := hr.out.cap
  have n_out := hr.out.big
  have m_sent := hr.sent.cap
  have n_sent := hr.sent.big
  clear hr hL k0 s0 b1 b2 e0 e1 e2 e3 e4 e5 e6 e7 e8 e10 e11 e12 e13 e14 e15 e16 e17
  generalize setOk E.s0 E.s1 E.s2 E.s3 E.s4 E.s5 E.s6 E.s7 E.s8 = so at HS Z1 ZY
  generalize inB E.mode 0 2 = mo at HM Z2 ZY
  generalize safeE E = ans at *
  go_enter Tryz.func31, Tryz.ntmps31
  go_wp2_with fail
  refine (HS.out _).mono ?_
  rintro e w1 ⟨rfl, hb⟩
  have K1 := Lib.hid (K0.out.below hb)
  have S1 := Lib.hid (S0.out.below hb)
  have B2 := Lib.hid (B1.out.trans (hb.mono B1.out.size))
  clear hb c0 c1 c2 c3 c4 c5 c6 c7 c8
  have c10 := (K1.out.cell 10).trans E10.out
  cases so with
  | false =>
    have ZZ := Lib.hid (Z1.out rfl)
    go_wp2
    go_ret
    exact ⟨by rw [ZZ.out]; rfl, B2.out⟩
  | true =>
  go_wp2_with fail
  refine (HM.out _).mono ?_
  rintro e w2 ⟨rfl, rfl⟩
  cases mo with
  | false =>
    have ZZ := Lib.hid (Z2.out rfl)
    go_wp2
    go_ret
    exact ⟨by rw [ZZ.out]; rfl, B2.out⟩
  | true =>
  have c12 := (K1.out.cell 12).trans E12.out
  have c13 := (K1.out.cell 13).trans E13.out
  have c14 := (K1.out.cell 14).trans E14.out
  have c15 := (K1.out.cell 15).trans E15.out
  have c17 := (K1.out.cell 17).trans E17.out
  have t1 := S1.out.cell 1
  have t5 := S1.out.cell 5
  have t7 := S1.out.cell 7
  simp only [List.getElem?_toArray, List.getElem?_cons_zero, List.getElem?_cons_succ] at t1 t5 t7
  cases h1 : ((E.qs.length : Int) != E.s1) with
  | true =>
    have ZZ := Lib.hid (Z3.out (by unfold partsB; rw [show ((E.qs.length : Int) == E.s1) = false from by simpa [bne] using h1]; simp))
    go_wp2
    go_ret
    exact ⟨by rw [ZZ.out]; rfl, B2.out⟩
  | false =>
  cases h2 : ((E.sh.length : Int) != E.s1) with
  | true =>
    have ZZ := Lib.hid (Z3.out (by unfold partsB; rw [show ((E.sh.length : Int) == E.s1) = false from by simpa [bne] using h2]; simp))
    go_wp2
    go_ret
    exact ⟨by rw [ZZ.out]; rfl, B2.out⟩
  | false =>
  cases h3 : ((E.sent.length : Int) != E.s1) with
  | true =>
    have ZZ := Lib.hid (Z3.out (by unfold partsB; rw [show ((E.sent.length : Int) == E.s1) = false from by simpa [bne] using h3]; simp))
    go_wp2
    go_ret
    exact ⟨by rw [ZZ.out]; rfl, B2.out⟩
  | false =>
  cases h4 : decide (E.s5 < (E.inq.length : Int)) with
  | true =>
    have ZZ := Lib.hid (Z6.out (qOk_long (by have := of_decide_eq_true h4; omega)))
    go_wp2
    go_ret
    exact ⟨by rw [ZZ.out]; rfl, B2.out⟩
  | false =>
  cases h5 : decide (E.s7 < (E.out.length : Int)) with
  | true =>
    have ZZ := Lib.hid (Z7.out (by have := of_decide_eq_true h5; omega))
    go_wp2
    go_ret
    exact ⟨by rw [ZZ.out]; rfl, B2.out⟩
  | false =>
  have n1 : (E.qs.length : Int) = E.s1 := by simpa using h1
  have n2 : (E.sh.length : Int) = E.s1 := by simpa using h2
  have n3 : (E.sent.length : Int) = E.s1 := by simpa using h3
  have n4 : ¬ E.s5 < (E.inq.length : Int) := by simpa using h4
  have n5 : ¬ E.s7 < (E.out.length : Int) := by simpa using h5
  have NQ : Hid (∀ j : Nat, j < E.sh.length → j < E.qs.length ∧ j < E.sent.length ∧ (j : Int) < E.s1) := Lib.hid (fun j hj => by omega)
  have NE : Hid (¬ (E.sh.length : Int) < E.s1) := Lib.hid (by omega)
  have PB : Hid (partsB E = true) := Lib.hid (by unfold partsB; simp [n1, n2, n3])
  have N4 : Hid ((E.inq.length : Int) ≤ E.s5) := Lib.hid (by omega)
  have N5 : Hid ((E.out.length : Int) ≤ E.s7) := Lib.hid (by omega)
  clear n1 n2 n3 n4 n5
  go_wp2
  clear c10 c12 c13 c14 c15 c17 t1 t5 t7 h1 h2 h3 h4 h5
  go_loopw [4] (fun i wr => ∃ j : Nat, j ≤ E.sh.length ∧ i = .int .i64 j ∧ (∀ m, m < j → preOk E m = true) ∧ Below w.heap.size w wr ∧ Blk wr w.heap.size 45 L.toArray ∧ Blk wr (w.heap.size + 1) 37 #[.int .i64 E.s0, .int .i64 E.s1, .int .i64 E.s2, .int .i64 E.s3, .int .i64 E.s4, .int .i64 E.s5, .int .i64 E.s6, .int .i64 E.s7, .int .i64 E.s8]) (fun i _ => E.sh.length - (intOf i).toNat)
  case atStart => exact ⟨0, Nat.zero_le _, rfl, fun m hm => by omega, B2.out, K1.out, S1.out⟩
  case round =>
    obtain ⟨j, hj, rfl, hall, hb, hk, hs⟩ := hrel
    have B3 := Lib.hid hb
    have K3 := Lib.hid hk
    have S3 := Lib.hid hs
    have H3 := Lib.hid hall
    have t1 := hs.cell 1
    simp only [List.getElem?_toArray, List.getElem?_cons_zero, List.getElem?_cons_succ] at t1
    clear hb hk hs hall
    by_cases hlt : j < E.sh.length
    · obtain ⟨y1, y2, y3⟩ := NQ.out j hlt
      have hne : ¬ E.sent = [] := by intro h; rw [h] at y2; simp at y2
      obtain ⟨bs, offs, hsa, hbs, hcs⟩ := HR.out.sh.cells (by omega)
      obtain ⟨ai, ci, g0, gq, grd⟩ := hcs j hlt
      obtain ⟨bq, offq, hqa, hbq, hcq⟩ := HR.out.qs.cells (by omega)
      obtain ⟨qi, di, g1, _, qrd⟩ := hcq j y1
      obtain ⟨bt, offt, hta, hbt, hct⟩ := HR.out.sent.lies.resolve_left hne
      have g2 := hct j y2
      have l1 : (j : Int) < (E.qs.length : Int) := by omega
      have l2 : (j : Int) < (E.sh.length : Int) := by omega
      have l3 : (j : Int) < (E.sent.length : Int) := by omega
      have E13b := E13.out
      have E14b := E14.out
      have E17b := E17.out
      have E16b := E16.out
      rw [hqa] at E13b
      rw [hsa] at E14b
      rw [hta] at E17b
      have HNO := Lib.hid (Z4.out j hlt)
      have HST : Hid (preOk E j = true → ∀ m, m < j + 1 → preOk E m = true) := Lib.hid (fun h m hm => by
        rcases Nat.lt_or_ge m j with h1 | h1
        · exact H3.out m h1
        · obtain rfl : m = j := by omega
          exact h)
      have hpe : preOk E j = (decide (((rel [] E.qs j).length : Int) ≤ E.s6) && (sokB (rel shD E.sh j).l (rel shD E.sh j).mr (rel shD E.sh j).lt (rel shD E.sh j).ov && (decide (((rel shD E.sh j).l.length : Int) ≤ E.s8) && (decide ((rel shD E.sh j).mr ≤ el E.sent j) && decide (el E.sent j ≤ E.mark))))) := rfl
      rw [hpe] at HNO HST
      clear hpe
      have m5 := n_inq
      rw [Nat.mul_one] at g1
      generalize el E.sent j = x at g2 HNO HST
      generalize rel [] E.qs j = row at g1 qrd HNO HST
      generalize rel shD E.sh j = S at g0 gq grd HNO HST
      obtain ⟨xl, mr, lt, ov⟩ := S
      simp only at HNO HST
      have g0 : w.cell? ⟨bs, offs + j * 4, none⟩ = some (.slice ai xl.length ci) := g0
      have p1 : w.cell? ⟨bs, offs + j * 4 + 1, none⟩ = some (.int .i64 mr) := gq 0 (by omega)
      have p2 : w.cell? ⟨bs, offs + j * 4 + 2, none⟩ = some (.int .i64 lt) := gq 1 (by omega)
      have p3 : w.cell? ⟨bs, offs + j * 4 + 3, none⟩ = some (.int .i64 ov) := gq 2 (by omega)
      have g1 : w.cell? ⟨bq, offq + j, none⟩ = some (.slice qi row.length di) := g1
      have qrd : Mqs w w.heap.size qi di row := qrd
      have grd : Ags w w.heap.size ai ci xl := grd
      have z1 := qrd.cap
      have z2 := qrd.big
      have z3 := grd.cap
      have z4 := grd.big
      have HC := Lib.hid (fun (W : World) (hb : Below w.heap.size w W) => specShardOk_any ai xl.length ci mr lt ov xl w.heap.size W (grd.below hb) rfl hb.size)
      have FX : Hid (∀ W : World, Below w.heap.size w W → Blk W w.heap.size 45 L.toArray → Blk W (w.heap.size + 1) 37 #[.int .i64 E.s0, .int .i64 E.s1, .int .i64 E.s2, .int .i64 E.s3, .int .i64 E.s4, .int .i64 E.s5, .int .i64 E.s6, .int .i64 E.s7, .int .i64 E.s8] → (fun W => W.cell? ⟨w.heap.size, 13, none⟩ = some (.slice (some ⟨bq, offq, none⟩) E.qs.length q.c2) ∧ W.cell? ⟨w.heap.size, 14, none⟩ = some (.slice (some ⟨bs, offs, none⟩) E.sh.length q.c3) ∧ W.cell? ⟨w.heap.size, 16, none⟩ = some (.int .i64 E.mark) ∧ W.cell? ⟨w.heap.size, 17, none⟩ = some (.slice (some ⟨bt, offt, none⟩) E.sent.length q.c5) ∧ W.cell? ⟨w.heap.size + 1, 6, none⟩ = some (.int .i64 E.s6) ∧ W.cell? ⟨w.heap.size + 1, 8, none⟩ = some (.int .i64 E.s8) ∧ W.cell? ⟨bq, offq + j, none⟩ = some (.slice qi row.length di) ∧ W.cell? ⟨bs, offs + j * 4, none⟩ = some (.slice ai xl.length ci) ∧ W.cell? ⟨bs, offs + j * 4 + 1, none⟩ = some (.int .i64 mr) ∧ W.cell? ⟨bs, offs + j * 4 + 2, none⟩ = some (.int .i64 lt) ∧ W.cell? ⟨bs, offs + j * 4 + 3, none⟩ = some (.int .i64 ov) ∧ W.cell? ⟨bt, offt + j, none⟩ = some (.int .i64 x)) W) := Lib.hid (fun W hb hk hs =>
        ⟨(hk.cell 13).trans E13b, (hk.cell 14).trans E14b, (hk.cell 16).trans E16b, (hk.cell 17).trans E17b, by have := hs.cell 6; simpa using this, by have := hs.cell 8; simpa using this, (hb.cell (p := ⟨bq, offq + j, none⟩) hbq).trans g1,
          (hb.cell (p := ⟨bs, offs + j * 4, none⟩) hbs).trans g0, (hb.cell (p := ⟨bs, offs + j * 4 + 1, none⟩) hbs).trans p1, (hb.cell (p := ⟨bs, offs + j * 4 + 2, none⟩) hbs).trans p2, (hb.cell (p := ⟨bs, offs + j * 4 + 3, none⟩) hbs).trans p3, (hb.cell (p := ⟨bt, offt + j, none⟩) hbt).trans g2⟩)
      have B4 := Lib.hid B3.out.drew
      have K4 := Lib.hid K3.out.drew
      have S4 := Lib.hid S3.out.drew
      have y0 := FX.out _ B4.out K4.out S4.out
      clear hcs hcq hct grd qrd gq hne g0 p1 p2 p3 g1 g2 E13b E14b E17b E16b hsa hqa hta
      generalize sokB xl mr lt ov = C at HC HNO HST
      generalize E.qs.length = nq at *
      generalize E.sent.length = nt at *
      cases h1 : decide (E.s6 < (row.length : Int)) with
      | true =>
        have ZZ := Lib.hid (HNO.out (by have := of_decide_eq_true h1; rw [decide_eq_false (show ¬ (row.length : Int) ≤ E.s6 by omega)]; simp))
        go_wp2_with fail
        refine wp_region_held_drew (S := fun W => W.cell? ⟨w.heap.size, 13, none⟩ = some (.slice (some ⟨bq, offq, none⟩) nq q.c2) ∧ W.cell? ⟨w.heap.size, 14, none⟩ = some (.slice (some ⟨bs, offs, none⟩) E.sh.length q.c3) ∧ W.cell? ⟨w.heap.size, 16, none⟩ = some (.int .i64 E.mark) ∧ W.cell? ⟨w.heap.size, 17, none⟩ = some (.slice (some ⟨bt, offt, none⟩) nt q.c5) ∧ W.cell? ⟨w.heap.size + 1, 6, none⟩ = some (.int .i64 E.s6) ∧ W.cell? ⟨w.heap.size + 1, 8, none⟩ = some (.int .i64 E.s8) ∧ W.cell? ⟨bq, offq + j, none⟩ = some (.slice qi row.length di) ∧ W.cell? ⟨bs, offs + j * 4, none⟩ = some (.slice ai xl.length ci) ∧ W.cell? ⟨bs, offs + j * 4 + 1, none⟩ = some (.int .i64 mr) ∧ W.cell? ⟨bs, offs + j * 4 + 2, none⟩ = some (.int .i64 lt) ∧ W.cell? ⟨bs, offs + j * 4 + 3, none⟩ = some (.int .i64 ov) ∧ W.cell? ⟨bt, offt + j, none⟩ = some (.int .i64 x)) (by kernel_rfl) y0 (fun hHeld => ?_)
        refine' wpAnyH_take (i := 0) (oi := ⟨some 66, _, _, _, _, _⟩) (v := .pointer (some ⟨w.heap.size, 13, none⟩)) rfl (by kernel_rfl) (by kernel_rfl) (by kernel_rfl) (fun _ _ _ h => h) (.inl ⟨by kernel_rfl, fun W hW => by obtain ⟨g13, g14, g16, g17, g6, g8, gq, z0, z1, z2, z3, gx⟩ := hW; go_simp⟩) hHeld ?_
        simp only [Act.put, List.setIfInBounds_toArray, List.set_cons_zero, List.set_cons_succ]
        refine' wpAnyH_take (i := 1) (oi := ⟨some 67, _, _, _, _, _⟩) (v := .slice (some ⟨bq, offq, none⟩) nq q.c2) rfl (by kernel_rfl) (by kernel_rfl) (by kernel_rfl) (fun _ _ _ h => h) (.inl ⟨by kernel_rfl, fun W hW => by obtain ⟨g13, g14, g16, g17, g6, g8, gq, z0, z1, z2, z3, gx⟩ := hW; go_simp⟩) hHeld ?_
        simp only [Act.put, List.setIfInBounds_toArray, List.set_cons_zero, List.set_cons_succ]
        refine' wpAnyH_take (i := 2) (oi := ⟨some 68, _, _, _, _, _⟩) (v := .int .i64 (j : Int)) rfl (by kernel_rfl) (by kernel_rfl) (by kernel_rfl) (fun _ _ _ h => h) (.inl ⟨by kernel_rfl, fun W hW => by obtain ⟨g13, g14, g16, g17, g6, g8, gq, z0, z1, z2, z3, gx⟩ := hW; go_simp⟩) hHeld ?_
        simp only [Act.put, List.setIfInBounds_toArray, List.set_cons_zero, List.set_cons_succ]
        refine' wpAnyH_take (i := 3) (oi := ⟨some 69, _, _, _, _, _⟩) (v := .pointer (some ⟨bq, offq + j, none⟩)) rfl (by kernel_rfl) (by kernel_rfl) (by kernel_rfl) (fun _ _ _ h => h) (.inl ⟨by kernel_rfl, fun W hW => by obtain ⟨g13, g14, g16, g17, g6, g8, gq, z0, z1, z2, z3, gx⟩ := hW; go_simp⟩) hHeld ?_
        simp only [Act.put, List.setIfInBounds_toArray, List.set_cons_zero, List.set_cons_succ]
        refine' wpAnyH_take (i := 4) (oi := ⟨some 70, _, _, _, _, _⟩) (v := .slice qi row.length di) rfl (by kernel_rfl) (by kernel_rfl) (by kernel_rfl) (fun _ _ _ h => h) (.inl ⟨by kernel_rfl, fun W hW => by obtain ⟨g13, g14, g16, g17, g6, g8, gq, z0, z1, z2, z3, gx⟩ := hW; go_simp⟩) hHeld ?_
        simp only [Act.put, List.setIfInBounds_toArray, List.set_cons_zero, List.set_cons_succ]
        refine' wpAnyH_take (i := 5) (oi := ⟨some 71, _, _, _, _, _⟩) (v := .int .i64 (row.length : Int)) rfl (by kernel_rfl) (by kernel_rfl) (by kernel_rfl) (fun _ _ _ h => h) (.inl ⟨by kernel_rfl, fun W hW => by obtain ⟨g13, g14, g16, g17, g6, g8, gq, z0, z1, z2, z3, gx⟩ := hW; go_simp⟩) hHeld ?_
        simp only [Act.put, List.setIfInBounds_toArray, List.set_cons_zero, List.set_cons_succ]
        refine' wpAnyH_take (i := 6) (oi := ⟨some 72, _, _, _, _, _⟩) (v := .pointer (some ⟨w.heap.size + 1, 6, none⟩)) rfl (by kernel_rfl) (by kernel_rfl) (by kernel_rfl) (fun _ _ _ h => h) (.inl ⟨by kernel_rfl, fun W hW => by obtain ⟨g13, g14, g16, g17, g6, g8, gq, z0, z1, z2, z3, gx⟩ := hW; go_simp⟩) hHeld ?_
        simp only [Act.put, List.setIfInBounds_toArray, List.set_cons_zero, List.set_cons_succ]
        refine' wpAnyH_take (i := 7) (oi := ⟨some 73, _, _, _, _, _⟩) (v := .int .i64 E.s6) rfl (by kernel_rfl) (by kernel_rfl) (by kernel_rfl) (fun _ _ _ h => h) (.inl ⟨by kernel_rfl, fun W hW => by obtain ⟨g13, g14, g16, g17, g6, g8, gq, z0, z1, z2, z3, gx⟩ := hW; go_simp⟩) hHeld ?_
        simp only [Act.put, List.setIfInBounds_toArray, List.set_cons_zero, List.set_cons_succ]
        refine' wpAnyH_take (i := 8) (oi := ⟨some 74, _, _, _, _, _⟩) (v := .bool true) rfl (by kernel_rfl) (by kernel_rfl) (by kernel_rfl) (fun _ _ _ h => h) (.inl ⟨by kernel_rfl, fun W hW => by obtain ⟨g13, g14, g16, g17, g6, g8, gq, z0, z1, z2, z3, gx⟩ := hW; go_simp⟩) hHeld ?_
        simp only [Act.put, List.setIfInBounds_toArray, List.set_cons_zero, List.set_cons_succ]
        refine' wpAnyH_take (i := 9) (oi := ⟨some 75, _, _, _, _, _⟩) (v := .bool true) rfl (by kernel_rfl) (by kernel_rfl) (by kernel_rfl) (fun _ _ _ h => h) (.inl ⟨by kernel_rfl, fun W hW => by obtain ⟨g13, g14, g16, g17, g6, g8, gq, z0, z1, z2, z3, gx⟩ := hW; go_simp⟩) hHeld ?_
        simp only [Act.put, List.setIfInBounds_toArray, List.set_cons_zero, List.set_cons_succ]
        refine' wpAnyH_take (i := 10) (oi := ⟨some 76, _, _, _, _, _⟩) (v := undef) rfl (by kernel_rfl) (by kernel_rfl) (by kernel_rfl) (fun _ _ _ h => h) (.inr ⟨by kernel_rfl, rfl⟩) hHeld ?_
        simp only [Act.put, List.setIfInBounds_toArray, List.set_cons_zero, List.set_cons_succ]
        refine' wpAnyH_take (i := 11) (oi := ⟨some 77, _, _, _, _, _⟩) (v := undef) rfl (by kernel_rfl) (by kernel_rfl) (by kernel_rfl) (fun _ _ _ h => h) (.inr ⟨by kernel_rfl, rfl⟩) hHeld ?_
        simp only [Act.put, List.setIfInBounds_toArray, List.set_cons_zero, List.set_cons_succ]
        refine' wpAnyH_take (i := 12) (oi := ⟨some 78, _, _, _, _, _⟩) (v := undef) rfl (by kernel_rfl) (by kernel_rfl) (by kernel_rfl) (fun _ _ _ h => h) (.inr ⟨by kernel_rfl, rfl⟩) hHeld ?_
        simp only [Act.put, List.setIfInBounds_toArray, List.set_cons_zero, List.set_cons_succ]
        refine' wpAnyH_take (i := 13) (oi := ⟨some 79, _, _, _, _, _⟩) (v := undef) rfl (by kernel_rfl) (by kernel_rfl) (by kernel_rfl) (fun _ _ _ h => h) (.inr ⟨by kernel_rfl, rfl⟩) hHeld ?_
        simp only [Act.put, List.setIfInBounds_toArray, List.set_cons_zero, List.set_cons_succ]
        refine' wpAnyH_take (i := 14) (oi := ⟨some 80, _, _, _, _, _⟩) (v := undef) rfl (by kernel_rfl) (by kernel_rfl) (by kernel_rfl) (fun _ _ _ h => h) (.inr ⟨by kernel_rfl, rfl⟩) hHeld ?_
        simp only [Act.put, List.setIfInBounds_toArray, List.set_cons_zero, List.set_cons_succ]
        refine' wpAnyH_take (i := 15) (oi := ⟨some 81, _, _, _, _, _⟩) (v := undef) rfl (by kernel_rfl) (by kernel_rfl) (by kernel_rfl) (fun _ _ _ h => h) (.inr ⟨by kernel_rfl, rfl⟩) hHeld ?_
        simp only [Act.put, List.setIfInBounds_toArray, List.set_cons_zero, List.set_cons_succ]
        refine' wpAnyH_take (i := 16) (oi := ⟨some 82, _, _, _, _, _⟩) (v := undef) rfl (by kernel_rfl) (by kernel_rfl) (by kernel_rfl) (fun _ _ _ h => h) (.inr ⟨by kernel_rfl, rfl⟩) hHeld ?_
        simp only [Act.put, List.setIfInBounds_toArray, List.set_cons_zero, List.set_cons_succ]
        refine' wpAnyH_take (i := 17) (oi := ⟨some 83, _, _, _, _, _⟩) (v := .bool true) rfl (by kernel_rfl) (by kernel_rfl) (by kernel_rfl) (fun _ _ _ h => h) (.inl ⟨by kernel_rfl, fun W hW => by obtain ⟨g13, g14, g16, g17, g6, g8, gq, z0, z1, z2, z3, gx⟩ := hW; go_simp⟩) hHeld ?_
        simp only [Act.put, List.setIfInBounds_toArray, List.set_cons_zero, List.set_cons_succ]
        refine' wpAnyH_take (i := 18) (oi := ⟨some 84, _, _, _, _, _⟩) (v := .bool true) rfl (by kernel_rfl) (by kernel_rfl) (by kernel_rfl) (fun _ _ _ h => h) (.inl ⟨by kernel_rfl, fun W hW => by obtain ⟨g13, g14, g16, g17, g6, g8, gq, z0, z1, z2, z3, gx⟩ := hW; go_simp⟩) hHeld ?_
        simp only [Act.put, List.setIfInBounds_toArray, List.set_cons_zero, List.set_cons_succ]
        refine' wpAnyH_take (i := 19) (oi := ⟨some 85, _, _, _, _, _⟩) (v := undef) rfl (by kernel_rfl) (by kernel_rfl) (by kernel_rfl) (fun _ _ _ h => h) (.inr ⟨by kernel_rfl, rfl⟩) hHeld ?_
        simp only [Act.put, List.setIfInBounds_toArray, List.set_cons_zero, List.set_cons_succ]
        refine' wpAnyH_take (i := 20) (oi := ⟨some 86, _, _, _, _, _⟩) (v := undef) rfl (by kernel_rfl) (by kernel_rfl) (by kernel_rfl) (fun _ _ _ h => h) (.inr ⟨by kernel_rfl, rfl⟩) hHeld ?_
        simp only [Act.put, List.setIfInBounds_toArray, List.set_cons_zero, List.set_cons_succ]
        refine' wpAnyH_take (i := 21) (oi := ⟨some 87, _, _, _, _, _⟩) (v := undef) rfl (by kernel_rfl) (by kernel_rfl) (by kernel_rfl) (fun _ _ _ h => h) (.inr ⟨by kernel_rfl, rfl⟩) hHeld ?_
        simp only [Act.put, List.setIfInBounds_toArray, List.set_cons_zero, List.set_cons_succ]
        refine' wpAnyH_take (i := 22) (oi := ⟨some 88, _, _, _, _, _⟩) (v := undef) rfl (by kernel_rfl) (by kernel_rfl) (by kernel_rfl) (fun _ _ _ h => h) (.inr ⟨by kernel_rfl, rfl⟩) hHeld ?_
        simp only [Act.put, List.setIfInBounds_toArray, List.set_cons_zero, List.set_cons_succ]
        refine' wpAnyH_take (i := 23) (oi := ⟨some 89, _, _, _, _, _⟩) (v := undef) rfl (by kernel_rfl) (by kernel_rfl) (by kernel_rfl) (fun _ _ _ h => h) (.inr ⟨by kernel_rfl, rfl⟩) hHeld ?_
        simp only [Act.put, List.setIfInBounds_toArray, List.set_cons_zero, List.set_cons_succ]
        refine' wpAnyH_take (i := 24) (oi := ⟨some 90, _, _, _, _, _⟩) (v := undef) rfl (by kernel_rfl) (by kernel_rfl) (by kernel_rfl) (fun _ _ _ h => h) (.inr ⟨by kernel_rfl, rfl⟩) hHeld ?_
        simp only [Act.put, List.setIfInBounds_toArray, List.set_cons_zero, List.set_cons_succ]
        refine' wpAnyH_take (i := 25) (oi := ⟨some 91, _, _, _, _, _⟩) (v := undef) rfl (by kernel_rfl) (by kernel_rfl) (by kernel_rfl) (fun _ _ _ h => h) (.inr ⟨by kernel_rfl, rfl⟩) hHeld ?_
        simp only [Act.put, List.setIfInBounds_toArray, List.set_cons_zero, List.set_cons_succ]
        refine' wpAnyH_take (i := 26) (oi := ⟨some 92, _, _, _, _, _⟩) (v := undef) rfl (by kernel_rfl) (by kernel_rfl) (by kernel_rfl) (fun _ _ _ h => h) (.inr ⟨by kernel_rfl, rfl⟩) hHeld ?_
        simp only [Act.put, List.setIfInBounds_toArray, List.set_cons_zero, List.set_cons_succ]
        refine' wpAnyH_take (i := 27) (oi := ⟨some 93, _, _, _, _, _⟩) (v := undef) rfl (by kernel_rfl) (by kernel_rfl) (by kernel_rfl) (fun _ _ _ h => h) (.inr ⟨by kernel_rfl, rfl⟩) hHeld ?_
        simp only [Act.put, List.setIfInBounds_toArray, List.set_cons_zero, List.set_cons_succ]
        refine' wpAnyH_take (i := 28) (oi := ⟨some 94, _, _, _, _, _⟩) (v := undef) rfl (by kernel_rfl) (by kernel_rfl) (by kernel_rfl) (fun _ _ _ h => h) (.inr ⟨by kernel_rfl, rfl⟩) hHeld ?_
        simp only [Act.put, List.setIfInBounds_toArray, List.set_cons_zero, List.set_cons_succ]
        refine' wpAnyH_take (i := 29) (oi := ⟨some 95, _, _, _, _, _⟩) (v := .bool true) rfl (by kernel_rfl) (by kernel_rfl) (by kernel_rfl) (fun _ _ _ h => h) (.inl ⟨by kernel_rfl, fun W hW => by obtain ⟨g13, g14, g16, g17, g6, g8, gq, z0, z1, z2, z3, gx⟩ := hW; go_simp⟩) hHeld ?_
        simp only [Act.put, List.setIfInBounds_toArray, List.set_cons_zero, List.set_cons_succ]
        refine' wpAnyH_take (i := 30) (oi := ⟨some 96, _, _, _, _, _⟩) (v := .bool true) rfl (by kernel_rfl) (by kernel_rfl) (by kernel_rfl) (fun _ _ _ h => h) (.inl ⟨by kernel_rfl, fun W hW => by obtain ⟨g13, g14, g16, g17, g6, g8, gq, z0, z1, z2, z3, gx⟩ := hW; go_simp⟩) hHeld ?_
        simp only [Act.put, List.setIfInBounds_toArray, List.set_cons_zero, List.set_cons_succ]
        refine' wpAnyH_take (i := 31) (oi := ⟨some 97, _, _, _, _, _⟩) (v := undef) rfl (by kernel_rfl) (by kernel_rfl) (by kernel_rfl) (fun _ _ _ h => h) (.inr ⟨by kernel_rfl, rfl⟩) hHeld ?_
        simp only [Act.put, List.setIfInBounds_toArray, List.set_cons_zero, List.set_cons_succ]
        refine' wpAnyH_take (i := 32) (oi := ⟨some 98, _, _, _, _, _⟩) (v := undef) rfl (by kernel_rfl) (by kernel_rfl) (by kernel_rfl) (fun _ _ _ h => h) (.inr ⟨by kernel_rfl, rfl⟩) hHeld ?_
        simp only [Act.put, List.setIfInBounds_toArray, List.set_cons_zero, List.set_cons_succ]
        refine' wpAnyH_take (i := 33) (oi := ⟨some 99, _, _, _, _, _⟩) (v := undef) rfl (by kernel_rfl) (by kernel_rfl) (by kernel_rfl) (fun _ _ _ h => h) (.inr ⟨by kernel_rfl, rfl⟩) hHeld ?_
        simp only [Act.put, List.setIfInBounds_toArray, List.set_cons_zero, List.set_cons_succ]
        refine' wpAnyH_take (i := 34) (oi := ⟨some 100, _, _, _, _, _⟩) (v := undef) rfl (by kernel_rfl) (by kernel_rfl) (by kernel_rfl) (fun _ _ _ h => h) (.inr ⟨by kernel_rfl, rfl⟩) hHeld ?_
        simp only [Act.put, List.setIfInBounds_toArray, List.set_cons_zero, List.set_cons_succ]
        refine' wpAnyH_take (i := 35) (oi := ⟨some 101, _, _, _, _, _⟩) (v := undef) rfl (by kernel_rfl) (by kernel_rfl) (by kernel_rfl) (fun _ _ _ h => h) (.inr ⟨by kernel_rfl, rfl⟩) hHeld ?_
        simp only [Act.put, List.setIfInBounds_toArray, List.set_cons_zero, List.set_cons_succ]
        refine' wpAnyH_take (i := 36) (oi := ⟨some 102, _, _, _, _, _⟩) (v := undef) rfl (by kernel_rfl) (by kernel_rfl) (by kernel_rfl) (fun _ _ _ h => h) (.inr ⟨by kernel_rfl, rfl⟩) hHeld ?_
        simp only [Act.put, List.setIfInBounds_toArray, List.set_cons_zero, List.set_cons_succ]
        refine' wpAnyH_take (i := 37) (oi := ⟨some 103, _, _, _, _, _⟩) (v := undef) rfl (by kernel_rfl) (by kernel_rfl) (by kernel_rfl) (fun _ _ _ h => h) (.inr ⟨by kernel_rfl, rfl⟩) hHeld ?_
        simp only [Act.put, List.setIfInBounds_toArray, List.set_cons_zero, List.set_cons_succ]
        refine' wpAnyH_take (i := 38) (oi := ⟨some 104, _, _, _, _, _⟩) (v := undef) rfl (by kernel_rfl) (by kernel_rfl) (by kernel_rfl) (fun _ _ _ h => h) (.inr ⟨by kernel_rfl, rfl⟩) hHeld ?_
        simp only [Act.put, List.setIfInBounds_toArray, List.set_cons_zero, List.set_cons_succ]
        refine' wpAnyH_take (i := 39) (oi := ⟨some 105, _, _, _, _, _⟩) (v := undef) rfl (by kernel_rfl) (by kernel_rfl) (by kernel_rfl) (fun _ _ _ h => h) (.inr ⟨by kernel_rfl, rfl⟩) hHeld ?_
        simp only [Act.put, List.setIfInBounds_toArray, List.set_cons_zero, List.set_cons_succ]
        refine' wpAnyH_take (i := 40) (oi := ⟨some 106, _, _, _, _, _⟩) (v := undef) rfl (by kernel_rfl) (by kernel_rfl) (by kernel_rfl) (fun _ _ _ h => h) (.inr ⟨by kernel_rfl, rfl⟩) hHeld ?_
        simp only [Act.put, List.setIfInBounds_toArray, List.set_cons_zero, List.set_cons_succ]
        refine' wpAnyH_take (i := 41) (oi := ⟨some 107, _, _, _, _, _⟩) (v := undef) rfl (by kernel_rfl) (by kernel_rfl) (by kernel_rfl) (fun _ _ _ h => h) (.inr ⟨by kernel_rfl, rfl⟩) hHeld ?_
        simp only [Act.put, List.setIfInBounds_toArray, List.set_cons_zero, List.set_cons_succ]
        refine' wpAnyH_take (i := 42) (oi := ⟨some 108, _, _, _, _, _⟩) (v := undef) rfl (by kernel_rfl) (by kernel_rfl) (by kernel_rfl) (fun _ _ _ h => h) (.inr ⟨by kernel_rfl, rfl⟩) hHeld ?_
        simp only [Act.put, List.setIfInBounds_toArray, List.set_cons_zero, List.set_cons_succ]
        refine' wpAnyH_take (i := 43) (oi := ⟨some 109, _, _, _, _, _⟩) (v := .bool true) rfl (by kernel_rfl) (by kernel_rfl) (by kernel_rfl) (fun _ _ _ h => h) (.inl ⟨by kernel_rfl, fun W hW => by obtain ⟨g13, g14, g16, g17, g6, g8, gq, z0, z1, z2, z3, gx⟩ := hW; go_simp⟩) hHeld ?_
        simp only [Act.put, List.setIfInBounds_toArray, List.set_cons_zero, List.set_cons_succ]
        refine' wpAnyH_take (i := 44) (oi := ⟨some 110, _, _, _, _, _⟩) (v := .bool true) rfl (by kernel_rfl) (by kernel_rfl) (by kernel_rfl) (fun _ _ _ h => h) (.inl ⟨by kernel_rfl, fun W hW => by obtain ⟨g13, g14, g16, g17, g6, g8, gq, z0, z1, z2, z3, gx⟩ := hW; go_simp⟩) hHeld ?_
        simp only [Act.put, List.setIfInBounds_toArray, List.set_cons_zero, List.set_cons_succ]
        refine' wpAnyH_take (i := 45) (oi := ⟨some 111, _, _, _, _, _⟩) (v := undef) rfl (by kernel_rfl) (by kernel_rfl) (by kernel_rfl) (fun _ _ _ h => h) (.inr ⟨by kernel_rfl, rfl⟩) hHeld ?_
        simp only [Act.put, List.setIfInBounds_toArray, List.set_cons_zero, List.set_cons_succ]
        refine' wpAnyH_take (i := 46) (oi := ⟨some 112, _, _, _, _, _⟩) (v := undef) rfl (by kernel_rfl) (by kernel_rfl) (by kernel_rfl) (fun _ _ _ h => h) (.inr ⟨by kernel_rfl, rfl⟩) hHeld ?_
        simp only [Act.put, List.setIfInBounds_toArray, List.set_cons_zero, List.set_cons_succ]
        refine' wpAnyH_take (i := 47) (oi := ⟨some 113, _, _, _, _, _⟩) (v := undef) rfl (by kernel_rfl) (by kernel_rfl) (by kernel_rfl) (fun _ _ _ h => h) (.inr ⟨by kernel_rfl, rfl⟩) hHeld ?_
        simp only [Act.put, List.setIfInBounds_toArray, List.set_cons_zero, List.set_cons_succ]
        refine' wpAnyH_take (i := 48) (oi := ⟨some 114, _, _, _, _, _⟩) (v := undef) rfl (by kernel_rfl) (by kernel_rfl) (by kernel_rfl) (fun _ _ _ h => h) (.inr ⟨by kernel_rfl, rfl⟩) hHeld ?_
        simp only [Act.put, List.setIfInBounds_toArray, List.set_cons_zero, List.set_cons_succ]
        refine' wpAnyH_take (i := 49) (oi := ⟨some 115, _, _, _, _, _⟩) (v := undef) rfl (by kernel_rfl) (by kernel_rfl) (by kernel_rfl) (fun _ _ _ h => h) (.inr ⟨by kernel_rfl, rfl⟩) hHeld ?_
        simp only [Act.put, List.setIfInBounds_toArray, List.set_cons_zero, List.set_cons_succ]
        refine' wpAnyH_take (i := 50) (oi := ⟨some 116, _, _, _, _, _⟩) (v := undef) rfl (by kernel_rfl) (by kernel_rfl) (by kernel_rfl) (fun _ _ _ h => h) (.inr ⟨by kernel_rfl, rfl⟩) hHeld ?_
        simp only [Act.put, List.setIfInBounds_toArray, List.set_cons_zero, List.set_cons_succ]
        refine' wpAnyH_take (i := 51) (oi := ⟨some 117, _, _, _, _, _⟩) (v := undef) rfl (by kernel_rfl) (by kernel_rfl) (by kernel_rfl) (fun _ _ _ h => h) (.inr ⟨by kernel_rfl, rfl⟩) hHeld ?_
        simp only [Act.put, List.setIfInBounds_toArray, List.set_cons_zero, List.set_cons_succ]
        refine' wpAnyH_take (i := 52) (oi := ⟨some 118, _, _, _, _, _⟩) (v := undef) rfl (by kernel_rfl) (by kernel_rfl) (by kernel_rfl) (fun _ _ _ h => h) (.inr ⟨by kernel_rfl, rfl⟩) hHeld ?_
        simp only [Act.put, List.setIfInBounds_toArray, List.set_cons_zero, List.set_cons_succ]
        refine' wpAnyH_take (i := 53) (oi := ⟨some 119, _, _, _, _, _⟩) (v := .bool true) rfl (by kernel_rfl) (by kernel_rfl) (by kernel_rfl) (fun _ _ _ h => h) (.inl ⟨by kernel_rfl, fun W hW => by obtain ⟨g13, g14, g16, g17, g6, g8, gq, z0, z1, z2, z3, gx⟩ := hW; go_simp⟩) hHeld ?_
        simp only [Act.put, List.setIfInBounds_toArray, List.set_cons_zero, List.set_cons_succ]
        refine wpAnyH_done (by kernel_rfl) ?_ _
        clear y0 hHeld
        go_wp2
        go_ret
        exact ⟨by rw [ZZ.out]; rfl, B4.out⟩
      | false =>
      cases C with
      | false =>
        have ZZ := Lib.hid (HNO.out (by simp))
        go_wp2_with fail
        refine wp_region_held_drew (S := fun W => W.cell? ⟨w.heap.size, 13, none⟩ = some (.slice (some ⟨bq, offq, none⟩) nq q.c2) ∧ W.cell? ⟨w.heap.size, 14, none⟩ = some (.slice (some ⟨bs, offs, none⟩) E.sh.length q.c3) ∧ W.cell? ⟨w.heap.size, 16, none⟩ = some (.int .i64 E.mark) ∧ W.cell? ⟨w.heap.size, 17, none⟩ = some (.slice (some ⟨bt, offt, none⟩) nt q.c5) ∧ W.cell? ⟨w.heap.size + 1, 6, none⟩ = some (.int .i64 E.s6) ∧ W.cell? ⟨w.heap.size + 1, 8, none⟩ = some (.int .i64 E.s8) ∧ W.cell? ⟨bq, offq + j, none⟩ = some (.slice qi row.length di) ∧ W.cell? ⟨bs, offs + j * 4, none⟩ = some (.slice ai xl.length ci) ∧ W.cell? ⟨bs, offs + j * 4 + 1, none⟩ = some (.int .i64 mr) ∧ W.cell? ⟨bs, offs + j * 4 + 2, none⟩ = some (.int .i64 lt) ∧ W.cell? ⟨bs, offs + j * 4 + 3, none⟩ = some (.int .i64 ov) ∧ W.cell? ⟨bt, offt + j, none⟩ = some (.int .i64 x)) (by kernel_rfl) y0 (fun hHeld => ?_)
        refine' wpAnyH_take (i := 0) (oi := ⟨some 66, _, _, _, _, _⟩) (v := .pointer (some ⟨w.heap.size, 13, none⟩)) rfl (by kernel_rfl) (by kernel_rfl) (by kernel_rfl) (fun _ _ _ h => h) (.inl ⟨by kernel_rfl, fun W hW => by obtain ⟨g13, g14, g16, g17, g6, g8, gq, z0, z1, z2, z3, gx⟩ := hW; go_simp⟩) hHeld ?_
        simp only [Act.put, List.setIfInBounds_toArray, List.set_cons_zero, List.set_cons_succ]
        refine' wpAnyH_take (i := 1) (oi := ⟨some 67, _, _, _, _, _⟩) (v := .slice (some ⟨bq, offq, none⟩) nq q.c2) rfl (by kernel_rfl) (by kernel_rfl) (by kernel_rfl) (fun _ _ _ h => h) (.inl ⟨by kernel_rfl, fun W hW => by obtain ⟨g13, g14, g16, g17, g6, g8, gq, z0, z1, z2, z3, gx⟩ := hW; go_simp⟩) hHeld ?_
        simp only [Act.put, List.setIfInBounds_toArray, List.set_cons_zero, List.set_cons_succ]
        refine' wpAnyH_take (i := 2) (oi := ⟨some 68, _, _, _, _, _⟩) (v := .int .i64 (j : Int)) rfl (by kernel_rfl) (by kernel_rfl) (by kernel_rfl) (fun _ _ _ h => h) (.inl ⟨by kernel_rfl, fun W hW => by obtain ⟨g13, g14, g16, g17, g6, g8, gq, z0, z1, z2, z3, gx⟩ := hW; go_simp⟩) hHeld ?_
        simp only [Act.put, List.setIfInBounds_toArray, List.set_cons_zero, List.set_cons_succ]
        refine' wpAnyH_take (i := 3) (oi := ⟨some 69, _, _, _, _, _⟩) (v := .pointer (some ⟨bq, offq + j, none⟩)) rfl (by kernel_rfl) (by kernel_rfl) (by kernel_rfl) (fun _ _ _ h => h) (.inl ⟨by kernel_rfl, fun W hW => by obtain ⟨g13, g14, g16, g17, g6, g8, gq, z0, z1, z2, z3, gx⟩ := hW; go_simp⟩) hHeld ?_
        simp only [Act.put, List.setIfInBounds_toArray, List.set_cons_zero, List.set_cons_succ]
        refine' wpAnyH_take (i := 4) (oi := ⟨some 70, _, _, _, _, _⟩) (v := .slice qi row.length di) rfl (by kernel_rfl) (by kernel_rfl) (by kernel_rfl) (fun _ _ _ h => h) (.inl ⟨by kernel_rfl, fun W hW => by obtain ⟨g13, g14, g16, g17, g6, g8, gq, z0, z1, z2, z3, gx⟩ := hW; go_simp⟩) hHeld ?_
        simp only [Act.put, List.setIfInBounds_toArray, List.set_cons_zero, List.set_cons_succ]
        refine' wpAnyH_take (i := 5) (oi := ⟨some 71, _, _, _, _, _⟩) (v := .int .i64 (row.length : Int)) rfl (by kernel_rfl) (by kernel_rfl) (by kernel_rfl) (fun _ _ _ h => h) (.inl ⟨by kernel_rfl, fun W hW => by obtain ⟨g13, g14, g16, g17, g6, g8, gq, z0, z1, z2, z3, gx⟩ := hW; go_simp⟩) hHeld ?_
        simp only [Act.put, List.setIfInBounds_toArray, List.set_cons_zero, List.set_cons_succ]
        refine' wpAnyH_take (i := 6) (oi := ⟨some 72, _, _, _, _, _⟩) (v := .pointer (some ⟨w.heap.size + 1, 6, none⟩)) rfl (by kernel_rfl) (by kernel_rfl) (by kernel_rfl) (fun _ _ _ h => h) (.inl ⟨by kernel_rfl, fun W hW => by obtain ⟨g13, g14, g16, g17, g6, g8, gq, z0, z1, z2, z3, gx⟩ := hW; go_simp⟩) hHeld ?_
        simp only [Act.put, List.setIfInBounds_toArray, List.set_cons_zero, List.set_cons_succ]
        refine' wpAnyH_take (i := 7) (oi := ⟨some 73, _, _, _, _, _⟩) (v := .int .i64 E.s6) rfl (by kernel_rfl) (by kernel_rfl) (by kernel_rfl) (fun _ _ _ h => h) (.inl ⟨by kernel_rfl, fun W hW => by obtain ⟨g13, g14, g16, g17, g6, g8, gq, z0, z1, z2, z3, gx⟩ := hW; go_simp⟩) hHeld ?_
        simp only [Act.put, List.setIfInBounds_toArray, List.set_cons_zero, List.set_cons_succ]
        refine' wpAnyH_take (i := 8) (oi := ⟨some 74, _, _, _, _, _⟩) (v := .bool false) rfl (by kernel_rfl) (by kernel_rfl) (by kernel_rfl) (fun _ _ _ h => h) (.inl ⟨by kernel_rfl, fun W hW => by obtain ⟨g13, g14, g16, g17, g6, g8, gq, z0, z1, z2, z3, gx⟩ := hW; go_simp⟩) hHeld ?_
        simp only [Act.put, List.setIfInBounds_toArray, List.set_cons_zero, List.set_cons_succ]
        refine' wpAnyH_take (i := 9) (oi := ⟨some 75, _, _, _, _, _⟩) (v := .bool false) rfl (by kernel_rfl) (by kernel_rfl) (by kernel_rfl) (fun _ _ _ h => h) (.inl ⟨by kernel_rfl, fun W hW => by obtain ⟨g13, g14, g16, g17, g6, g8, gq, z0, z1, z2, z3, gx⟩ := hW; go_simp⟩) hHeld ?_
        simp only [Act.put, List.setIfInBounds_toArray, List.set_cons_zero, List.set_cons_succ]
        refine' wpAnyH_take (i := 10) (oi := ⟨some 76, _, _, _, _, _⟩) (v := .pointer (some ⟨w.heap.size, 14, none⟩)) rfl (by kernel_rfl) (by kernel_rfl) (by kernel_rfl) (fun _ _ _ h => h) (.inl ⟨by kernel_rfl, fun W hW => by obtain ⟨g13, g14, g16, g17, g6, g8, gq, z0, z1, z2, z3, gx⟩ := hW; go_simp⟩) hHeld ?_
        simp only [Act.put, List.setIfInBounds_toArray, List.set_cons_zero, List.set_cons_succ]
        refine' wpAnyH_take (i := 11) (oi := ⟨some 77, _, _, _, _, _⟩) (v := .slice (some ⟨bs, offs, none⟩) E.sh.length q.c3) rfl (by kernel_rfl) (by kernel_rfl) (by kernel_rfl) (fun _ _ _ h => h) (.inl ⟨by kernel_rfl, fun W hW => by obtain ⟨g13, g14, g16, g17, g6, g8, gq, z0, z1, z2, z3, gx⟩ := hW; go_simp⟩) hHeld ?_
        simp only [Act.put, List.setIfInBounds_toArray, List.set_cons_zero, List.set_cons_succ]
        refine' wpAnyH_take (i := 12) (oi := ⟨some 78, _, _, _, _, _⟩) (v := .int .i64 (j : Int)) rfl (by kernel_rfl) (by kernel_rfl) (by kernel_rfl) (fun _ _ _ h => h) (.inl ⟨by kernel_rfl, fun W hW => by obtain ⟨g13, g14, g16, g17, g6, g8, gq, z0, z1, z2, z3, gx⟩ := hW; go_simp⟩) hHeld ?_
        simp only [Act.put, List.setIfInBounds_toArray, List.set_cons_zero, List.set_cons_succ]
        refine' wpAnyH_take (i := 13) (oi := ⟨some 79, _, _, _, _, _⟩) (v := .pointer (some ⟨bs, offs + j * 4, none⟩)) rfl (by kernel_rfl) (by kernel_rfl) (by kernel_rfl) (fun _ _ _ h => h) (.inl ⟨by kernel_rfl, fun W hW => by obtain ⟨g13, g14, g16, g17, g6, g8, gq, z0, z1, z2, z3, gx⟩ := hW; go_simp⟩) hHeld ?_
        simp only [Act.put, List.setIfInBounds_toArray, List.set_cons_zero, List.set_cons_succ]
        refine' wpAnyH_take (i := 14) (oi := ⟨some 80, _, _, _, _, _⟩) (v := .agg #[.slice ai xl.length ci, .int .i64 mr, .int .i64 lt, .int .i64 ov]) rfl (by kernel_rfl) (by kernel_rfl) (by kernel_rfl) (fun _ _ _ h => h) (.inl ⟨by kernel_rfl, fun W hW => by obtain ⟨g13, g14, g16, g17, g6, g8, gq, z0, z1, z2, z3, gx⟩ := hW; go_simp⟩) hHeld ?_
        simp only [Act.put, List.setIfInBounds_toArray, List.set_cons_zero, List.set_cons_succ]
        refine wpAnyH_ready (rs := [15]) (by kernel_rfl) (by simp) ?_
        refine AllReadyH.cons (o := ⟨some 81, _, _, _, _, _⟩) rfl (fun KK hK => ?_) AllReadyH.nil
        go_simp
        refine (HC.out _ B4.out).mono ?_
        rintro e w3 ⟨rfl, hb⟩
        clear y0 hHeld
        have K4 := Lib.hid (K4.out.below hb)
        have S4 := Lib.hid (S4.out.below hb)
        have B4 := Lib.hid (B4.out.trans (hb.mono B4.out.size))
        clear hb
        have y0 := FX.out _ B4.out K4.out S4.out
        dsimp only
        refine (Go.Shut.out hK) _ _ y0 (fun hHeld => ?_)
        clear hK KK
        try simp only [Act.put, List.setIfInBounds_toArray, List.set_cons_zero, List.set_cons_succ]
        refine' wpAnyH_take (i := 16) (oi := ⟨some 82, _, _, _, _, _⟩) (v := .bool true) rfl (by kernel_rfl) (by kernel_rfl) (by kernel_rfl) (fun _ _ _ h => h) (.inl ⟨by kernel_rfl, fun W hW => by obtain ⟨g13, g14, g16, g17, g6, g8, gq, z0, z1, z2, z3, gx⟩ := hW; go_simp⟩) hHeld ?_
        simp only [Act.put, List.setIfInBounds_toArray, List.set_cons_zero, List.set_cons_succ]
        refine' wpAnyH_take (i := 17) (oi := ⟨some 83, _, _, _, _, _⟩) (v := .bool true) rfl (by kernel_rfl) (by kernel_rfl) (by kernel_rfl) (fun _ _ _ h => h) (.inl ⟨by kernel_rfl, fun W hW => by obtain ⟨g13, g14, g16, g17, g6, g8, gq, z0, z1, z2, z3, gx⟩ := hW; go_simp⟩) hHeld ?_
        simp only [Act.put, List.setIfInBounds_toArray, List.set_cons_zero, List.set_cons_succ]
        refine' wpAnyH_take (i := 18) (oi := ⟨some 84, _, _, _, _, _⟩) (v := .bool true) rfl (by kernel_rfl) (by kernel_rfl) (by kernel_rfl) (fun _ _ _ h => h) (.inl ⟨by kernel_rfl, fun W hW => by obtain ⟨g13, g14, g16, g17, g6, g8, gq, z0, z1, z2, z3, gx⟩ := hW; go_simp⟩) hHeld ?_
        simp only [Act.put, List.setIfInBounds_toArray, List.set_cons_zero, List.set_cons_succ]
        refine' wpAnyH_take (i := 19) (oi := ⟨some 85, _, _, _, _, _⟩) (v := undef) rfl (by kernel_rfl) (by kernel_rfl) (by kernel_rfl) (fun _ _ _ h => h) (.inr ⟨by kernel_rfl, rfl⟩) hHeld ?_
        simp only [Act.put, List.setIfInBounds_toArray, List.set_cons_zero, List.set_cons_succ]
        refine' wpAnyH_take (i := 20) (oi := ⟨some 86, _, _, _, _, _⟩) (v := undef) rfl (by kernel_rfl) (by kernel_rfl) (by kernel_rfl) (fun _ _ _ h => h) (.inr ⟨by kernel_rfl, rfl⟩) hHeld ?_
        simp only [Act.put, List.setIfInBounds_toArray, List.set_cons_zero, List.set_cons_succ]
        refine' wpAnyH_take (i := 21) (oi := ⟨some 87, _, _, _, _, _⟩) (v := undef) rfl (by kernel_rfl) (by kernel_rfl) (by kernel_rfl) (fun _ _ _ h => h) (.inr ⟨by kernel_rfl, rfl⟩) hHeld ?_
        simp only [Act.put, List.setIfInBounds_toArray, List.set_cons_zero, List.set_cons_succ]
        refine' wpAnyH_take (i := 22) (oi := ⟨some 88, _, _, _, _, _⟩) (v := undef) rfl (by kernel_rfl) (by kernel_rfl) (by kernel_rfl) (fun _ _ _ h => h) (.inr ⟨by kernel_rfl, rfl⟩) hHeld ?_
        simp only [Act.put, List.setIfInBounds_toArray, List.set_cons_zero, List.set_cons_succ]
        refine' wpAnyH_take (i := 23) (oi := ⟨some 89, _, _, _, _, _⟩) (v := undef) rfl (by kernel_rfl) (by kernel_rfl) (by kernel_rfl) (fun _ _ _ h => h) (.inr ⟨by kernel_rfl, rfl⟩) hHeld ?_
        simp only [Act.put, List.setIfInBounds_toArray, List.set_cons_zero, List.set_cons_succ]
        refine' wpAnyH_take (i := 24) (oi := ⟨some 90, _, _, _, _, _⟩) (v := undef) rfl (by kernel_rfl) (by kernel_rfl) (by kernel_rfl) (fun _ _ _ h => h) (.inr ⟨by kernel_rfl, rfl⟩) hHeld ?_
        simp only [Act.put, List.setIfInBounds_toArray, List.set_cons_zero, List.set_cons_succ]
        refine' wpAnyH_take (i := 25) (oi := ⟨some 91, _, _, _, _, _⟩) (v := undef) rfl (by kernel_rfl) (by kernel_rfl) (by kernel_rfl) (fun _ _ _ h => h) (.inr ⟨by kernel_rfl, rfl⟩) hHeld ?_
        simp only [Act.put, List.setIfInBounds_toArray, List.set_cons_zero, List.set_cons_succ]
        refine' wpAnyH_take (i := 26) (oi := ⟨some 92, _, _, _, _, _⟩) (v := undef) rfl (by kernel_rfl) (by kernel_rfl) (by kernel_rfl) (fun _ _ _ h => h) (.inr ⟨by kernel_rfl, rfl⟩) hHeld ?_
        simp only [Act.put, List.setIfInBounds_toArray, List.set_cons_zero, List.set_cons_succ]
        refine' wpAnyH_take (i := 27) (oi := ⟨some 93, _, _, _, _, _⟩) (v := undef) rfl (by kernel_rfl) (by kernel_rfl) (by kernel_rfl) (fun _ _ _ h => h) (.inr ⟨by kernel_rfl, rfl⟩) hHeld ?_
        simp only [Act.put, List.setIfInBounds_toArray, List.set_cons_zero, List.set_cons_succ]
        refine' wpAnyH_take (i := 28) (oi := ⟨some 94, _, _, _, _, _⟩) (v := undef) rfl (by kernel_rfl) (by kernel_rfl) (by kernel_rfl) (fun _ _ _ h => h) (.inr ⟨by kernel_rfl, rfl⟩) hHeld ?_
        simp only [Act.put, List.setIfInBounds_toArray, List.set_cons_zero, List.set_cons_succ]
        refine' wpAnyH_take (i := 29) (oi := ⟨some 95, _, _, _, _, _⟩) (v := .bool true) rfl (by kernel_rfl) (by kernel_rfl) (by kernel_rfl) (fun _ _ _ h => h) (.inl ⟨by kernel_rfl, fun W hW => by obtain ⟨g13, g14, g16, g17, g6, g8, gq, z0, z1, z2, z3, gx⟩ := hW; go_simp⟩) hHeld ?_
        simp only [Act.put, List.setIfInBounds_toArray, List.set_cons_zero, List.set_cons_succ]
        refine' wpAnyH_take (i := 30) (oi := ⟨some 96, _, _, _, _, _⟩) (v := .bool true) rfl (by kernel_rfl) (by kernel_rfl) (by kernel_rfl) (fun _ _ _ h => h) (.inl ⟨by kernel_rfl, fun W hW => by obtain ⟨g13, g14, g16, g17, g6, g8, gq, z0, z1, z2, z3, gx⟩ := hW; go_simp⟩) hHeld ?_
        simp only [Act.put, List.setIfInBounds_toArray, List.set_cons_zero, List.set_cons_succ]
        refine' wpAnyH_take (i := 31) (oi := ⟨some 97, _, _, _, _, _⟩) (v := undef) rfl (by kernel_rfl) (by kernel_rfl) (by kernel_rfl) (fun _ _ _ h => h) (.inr ⟨by kernel_rfl, rfl⟩) hHeld ?_
        simp only [Act.put, List.setIfInBounds_toArray, List.set_cons_zero, List.set_cons_succ]
        refine' wpAnyH_take (i := 32) (oi := ⟨some 98, _, _, _, _, _⟩) (v := undef) rfl (by kernel_rfl) (by kernel_rfl) (by kernel_rfl) (fun _ _ _ h => h) (.inr ⟨by kernel_rfl, rfl⟩) hHeld ?_
        simp only [Act.put, List.setIfInBounds_toArray, List.set_cons_zero, List.set_cons_succ]
        refine' wpAnyH_take (i := 33) (oi := ⟨some 99, _, _, _, _, _⟩) (v := undef) rfl (by kernel_rfl) (by kernel_rfl) (by kernel_rfl) (fun _ _ _ h => h) (.inr ⟨by kernel_rfl, rfl⟩) hHeld ?_
        simp only [Act.put, List.setIfInBounds_toArray, List.set_cons_zero, List.set_cons_succ]
        refine' wpAnyH_take (i := 34) (oi := ⟨some 100, _, _, _, _, _⟩) (v := undef) rfl (by kernel_rfl) (by kernel_rfl) (by kernel_rfl) (fun _ _ _ h => h) (.inr ⟨by kernel_rfl, rfl⟩) hHeld ?_
        simp only [Act.put, List.setIfInBounds_toArray, List.set_cons_zero, List.set_cons_succ]
        refine' wpAnyH_take (i := 35) (oi := ⟨some 101, _, _, _, _, _⟩) (v := undef) rfl (by kernel_rfl) (by kernel_rfl) (by kernel_rfl) (fun _ _ _ h => h) (.inr ⟨by kernel_rfl, rfl⟩) hHeld ?_
        simp only [Act.put, List.setIfInBounds_toArray, List.set_cons_zero, List.set_cons_succ]
        refine' wpAnyH_take (i := 36) (oi := ⟨some 102, _, _, _, _, _⟩) (v := undef) rfl (by kernel_rfl) (by kernel_rfl) (by kernel_rfl) (fun _ _ _ h => h) (.inr ⟨by kernel_rfl, rfl⟩) hHeld ?_
        simp only [Act.put, List.setIfInBounds_toArray, List.set_cons_zero, List.set_cons_succ]
        refine' wpAnyH_take (i := 37) (oi := ⟨some 103, _, _, _, _, _⟩) (v := undef) rfl (by kernel_rfl) (by kernel_rfl) (by kernel_rfl) (fun _ _ _ h => h) (.inr ⟨by kernel_rfl, rfl⟩) hHeld ?_
        simp only [Act.put, List.setIfInBounds_toArray, List.set_cons_zero, List.set_cons_succ]
        refine' wpAnyH_take (i := 38) (oi := ⟨some 104, _, _, _, _, _⟩) (v := undef) rfl (by kernel_rfl) (by kernel_rfl) (by kernel_rfl) (fun _ _ _ h => h) (.inr ⟨by kernel_rfl, rfl⟩) hHeld ?_
        simp only [Act.put, List.setIfInBounds_toArray, List.set_cons_zero, List.set_cons_succ]
        refine' wpAnyH_take (i := 39) (oi := ⟨some 105, _, _, _, _, _⟩) (v := undef) rfl (by kernel_rfl) (by kernel_rfl) (by kernel_rfl) (fun _ _ _ h => h) (.inr ⟨by kernel_rfl, rfl⟩) hHeld ?_
        simp only [Act.put, List.setIfInBounds_toArray, List.set_cons_zero, List.set_cons_succ]
        refine' wpAnyH_take (i := 40) (oi := ⟨some 106, _, _, _, _, _⟩) (v := undef) rfl (by kernel_rfl) (by kernel_rfl) (by kernel_rfl) (fun _ _ _ h => h) (.inr ⟨by kernel_rfl, rfl⟩) hHeld ?_
        simp only [Act.put, List.setIfInBounds_toArray, List.set_cons_zero, List.set_cons_succ]
        refine' wpAnyH_take (i := 41) (oi := ⟨some 107, _, _, _, _, _⟩) (v := undef) rfl (by kernel_rfl) (by kernel_rfl) (by kernel_rfl) (fun _ _ _ h => h) (.inr ⟨by kernel_rfl, rfl⟩) hHeld ?_
        simp only [Act.put, List.setIfInBounds_toArray, List.set_cons_zero, List.set_cons_succ]
        refine' wpAnyH_take (i := 42) (oi := ⟨some 108, _, _, _, _, _⟩) (v := undef) rfl (by kernel_rfl) (by kernel_rfl) (by kernel_rfl) (fun _ _ _ h => h) (.inr ⟨by kernel_rfl, rfl⟩) hHeld ?_
        simp only [Act.put, List.setIfInBounds_toArray, List.set_cons_zero, List.set_cons_succ]
        refine' wpAnyH_take (i := 43) (oi := ⟨some 109, _, _, _, _, _⟩) (v := .bool true) rfl (by kernel_rfl) (by kernel_rfl) (by kernel_rfl) (fun _ _ _ h => h) (.inl ⟨by kernel_rfl, fun W hW => by obtain ⟨g13, g14, g16, g17, g6, g8, gq, z0, z1, z2, z3, gx⟩ := hW; go_simp⟩) hHeld ?_
        simp only [Act.put, List.setIfInBounds_toArray, List.set_cons_zero, List.set_cons_succ]
        refine' wpAnyH_take (i := 44) (oi := ⟨some 110, _, _, _, _, _⟩) (v := .bool true) rfl (by kernel_rfl) (by kernel_rfl) (by kernel_rfl) (fun _ _ _ h => h) (.inl ⟨by kernel_rfl, fun W hW => by obtain ⟨g13, g14, g16, g17, g6, g8, gq, z0, z1, z2, z3, gx⟩ := hW; go_simp⟩) hHeld ?_
        simp only [Act.put, List.setIfInBounds_toArray, List.set_cons_zero, List.set_cons_succ]
        refine' wpAnyH_take (i := 45) (oi := ⟨some 111, _, _, _, _, _⟩) (v := undef) rfl (by kernel_rfl) (by kernel_rfl) (by kernel_rfl) (fun _ _ _ h => h) (.inr ⟨by kernel_rfl, rfl⟩) hHeld ?_
        simp only [Act.put, List.setIfInBounds_toArray, List.set_cons_zero, List.set_cons_succ]
        refine' wpAnyH_take (i := 46) (oi := ⟨some 112, _, _, _, _, _⟩) (v := undef) rfl (by kernel_rfl) (by kernel_rfl) (by kernel_rfl) (fun _ _ _ h => h) (.inr ⟨by kernel_rfl, rfl⟩) hHeld ?_
        simp only [Act.put, List.setIfInBounds_toArray, List.set_cons_zero, List.set_cons_succ]
        refine' wpAnyH_take (i := 47) (oi := ⟨some 113, _, _, _, _, _⟩) (v := undef) rfl (by kernel_rfl) (by kernel_rfl) (by kernel_rfl) (fun _ _ _ h => h) (.inr ⟨by kernel_rfl, rfl⟩) hHeld ?_
        simp only [Act.put, List.setIfInBounds_toArray, List.set_cons_zero, List.set_cons_succ]
        refine' wpAnyH_take (i := 48) (oi := ⟨some 114, _, _, _, _, _⟩) (v := undef) rfl (by kernel_rfl) (by kernel_rfl) (by kernel_rfl) (fun _ _ _ h => h) (.inr ⟨by kernel_rfl, rfl⟩) hHeld ?_
        simp only [Act.put, List.setIfInBounds_toArray, List.set_cons_zero, List.set_cons_succ]
        refine' wpAnyH_take (i := 49) (oi := ⟨some 115, _, _, _, _, _⟩) (v := undef) rfl (by kernel_rfl) (by kernel_rfl) (by kernel_rfl) (fun _ _ _ h => h) (.inr ⟨by kernel_rfl, rfl⟩) hHeld ?_
        simp only [Act.put, List.setIfInBounds_toArray, List.set_cons_zero, List.set_cons_succ]
        refine' wpAnyH_take (i := 50) (oi := ⟨some 116, _, _, _, _, _⟩) (v := undef) rfl (by kernel_rfl) (by kernel_rfl) (by kernel_rfl) (fun _ _ _ h => h) (.inr ⟨by kernel_rfl, rfl⟩) hHeld ?_
        simp only [Act.put, List.setIfInBounds_toArray, List.set_cons_zero, List.set_cons_succ]
        refine' wpAnyH_take (i := 51) (oi := ⟨some 117, _, _, _, _, _⟩) (v := undef) rfl (by kernel_rfl) (by kernel_rfl) (by kernel_rfl) (fun _ _ _ h => h) (.inr ⟨by kernel_rfl, rfl⟩) hHeld ?_
        simp only [Act.put, List.setIfInBounds_toArray, List.set_cons_zero, List.set_cons_succ]
        refine' wpAnyH_take (i := 52) (oi := ⟨some 118, _, _, _, _, _⟩) (v := undef) rfl (by kernel_rfl) (by kernel_rfl) (by kernel_rfl) (fun _ _ _ h => h) (.inr ⟨by kernel_rfl, rfl⟩) hHeld ?_
        simp only [Act.put, List.setIfInBounds_toArray, List.set_cons_zero, List.set_cons_succ]
        refine' wpAnyH_take (i := 53) (oi := ⟨some 119, _, _, _, _, _⟩) (v := .bool true) rfl (by kernel_rfl) (by kernel_rfl) (by kernel_rfl) (fun _ _ _ h => h) (.inl ⟨by kernel_rfl, fun W hW => by obtain ⟨g13, g14, g16, g17, g6, g8, gq, z0, z1, z2, z3, gx⟩ := hW; go_simp⟩) hHeld ?_
        simp only [Act.put, List.setIfInBounds_toArray, List.set_cons_zero, List.set_cons_succ]
        refine wpAnyH_done (by kernel_rfl) ?_ _
        clear y0 hHeld
        go_wp2
        go_ret
        exact ⟨by rw [ZZ.out]; rfl, B4.out⟩
      | true =>
      cases h3 : decide (E.s8 < (xl.length : Int)) with
      | true =>
        have ZZ := Lib.hid (HNO.out (by have := of_decide_eq_true h3; rw [decide_eq_false (show ¬ (xl.length : Int) ≤ E.s8 by omega)]; simp))
        go_wp2_with fail
        refine wp_region_held_drew (S := fun W => W.cell? ⟨w.heap.size, 13, none⟩ = some (.slice (some ⟨bq, offq, none⟩) nq q.c2) ∧ W.cell? ⟨w.heap.size, 14, none⟩ = some (.slice (some ⟨bs, offs, none⟩) E.sh.length q.c3) ∧ W.cell? ⟨w.heap.size, 16, none⟩ = some (.int .i64 E.mark) ∧ W.cell? ⟨w.heap.size, 17, none⟩ = some (.slice (some ⟨bt, offt, none⟩) nt q.c5) ∧ W.cell? ⟨w.heap.size + 1, 6, none⟩ = some (.int .i64 E.s6) ∧ W.cell? ⟨w.heap.size + 1, 8, none⟩ = some (.int .i64 E.s8) ∧ W.cell? ⟨bq, offq + j, none⟩ = some (.slice qi row.length di) ∧ W.cell? ⟨bs, offs + j * 4, none⟩ = some (.slice ai xl.length ci) ∧ W.cell? ⟨bs, offs + j * 4 + 1, none⟩ = some (.int .i64 mr) ∧ W.cell? ⟨bs, offs + j * 4 + 2, none⟩ = some (.int .i64 lt) ∧ W.cell? ⟨bs, offs + j * 4 + 3, none⟩ = some (.int .i64 ov) ∧ W.cell? ⟨bt, offt + j, none⟩ = some (.int .i64 x)) (by kernel_rfl) y0 (fun hHeld => ?_)
        refine' wpAnyH_take (i := 0) (oi := ⟨some 66, _, _, _, _, _⟩) (v := .pointer (some ⟨w.heap.size, 13, none⟩)) rfl (by kernel_rfl) (by kernel_rfl) (by kernel_rfl) (fun _ _ _ h => h) (.inl ⟨by kernel_rfl, fun W hW => by obtain ⟨g13, g14, g16, g17, g6, g8, gq, z0, z1, z2, z3, gx⟩ := hW; go_simp⟩) hHeld ?_
        simp only [Act.put, List.setIfInBounds_toArray, List.set_cons_zero, List.set_cons_succ]
        refine' wpAnyH_take (i := 1) (oi := ⟨some 67, _, _, _, _, _⟩) (v := .slice (some ⟨bq, offq, none⟩) nq q.c2) rfl (by kernel_rfl) (by kernel_rfl) (by kernel_rfl) (fun _ _ _ h => h) (.inl ⟨by kernel_rfl, fun W hW => by obtain ⟨g13, g14, g16, g17, g6, g8, gq, z0, z1, z2, z3, gx⟩ := hW; go_simp⟩) hHeld ?_
        simp only [Act.put, List.setIfInBounds_toArray, List.set_cons_zero, List.set_cons_succ]
        refine' wpAnyH_take (i := 2) (oi := ⟨some 68, _, _, _, _, _⟩) (v := .int .i64 (j : Int)) rfl (by kernel_rfl) (by kernel_rfl) (by kernel_rfl) (fun _ _ _ h => h) (.inl ⟨by kernel_rfl, fun W hW => by obtain ⟨g13, g14, g16, g17, g6, g8, gq, z0, z1, z2, z3, gx⟩ := hW; go_simp⟩) hHeld ?_
        simp only [Act.put, List.setIfInBounds_toArray, List.set_cons_zero, List.set_cons_succ]
        refine' wpAnyH_take (i := 3) (oi := ⟨some 69, _, _, _, _, _⟩) (v := .pointer (some ⟨bq, offq + j, none⟩)) rfl (by kernel_rfl) (by kernel_rfl) (by kernel_rfl) (fun _ _ _ h => h) (.inl ⟨by kernel_rfl, fun W hW => by obtain ⟨g13, g14, g16, g17, g6, g8, gq, z0, z1, z2, z3, gx⟩ := hW; go_simp⟩) hHeld ?_
        simp only [Act.put, List.setIfInBounds_toArray, List.set_cons_zero, List.set_cons_succ]
        refine' wpAnyH_take (i := 4) (oi := ⟨some 70, _, _, _, _, _⟩) (v := .slice qi row.length di) rfl (by kernel_rfl) (by kernel_rfl) (by kernel_rfl) (fun _ _ _ h => h) (.inl ⟨by kernel_rfl, fun W hW => by obtain ⟨g13, g14, g16, g17, g6, g8, gq, z0, z1, z2, z3, gx⟩ := hW; go_simp⟩) hHeld ?_
        simp only [Act.put, List.setIfInBounds_toArray, List.set_cons_zero, List.set_cons_succ]
        refine' wpAnyH_take (i := 5) (oi := ⟨some 71, _, _, _, _, _⟩) (v := .int .i64 (row.length : Int)) rfl (by kernel_rfl) (by kernel_rfl) (by kernel_rfl) (fun _ _ _ h => h) (.inl ⟨by kernel_rfl, fun W hW => by obtain ⟨g13, g14, g16, g17, g6, g8, gq, z0, z1, z2, z3, gx⟩ := hW; go_simp⟩) hHeld ?_
        simp only [Act.put, List.setIfInBounds_toArray, List.set_cons_zero, List.set_cons_succ]
        refine' wpAnyH_take (i := 6) (oi := ⟨some 72, _, _, _, _, _⟩) (v := .pointer (some ⟨w.heap.size + 1, 6, none⟩)) rfl (by kernel_rfl) (by kernel_rfl) (by kernel_rfl) (fun _ _ _ h => h) (.inl ⟨by kernel_rfl, fun W hW => by obtain ⟨g13, g14, g16, g17, g6, g8, gq, z0, z1, z2, z3, gx⟩ := hW; go_simp⟩) hHeld ?_
        simp only [Act.put, List.setIfInBounds_toArray, List.set_cons_zero, List.set_cons_succ]
        refine' wpAnyH_take (i := 7) (oi := ⟨some 73, _, _, _, _, _⟩) (v := .int .i64 E.s6) rfl (by kernel_rfl) (by kernel_rfl) (by kernel_rfl) (fun _ _ _ h => h) (.inl ⟨by kernel_rfl, fun W hW => by obtain ⟨g13, g14, g16, g17, g6, g8, gq, z0, z1, z2, z3, gx⟩ := hW; go_simp⟩) hHeld ?_
        simp only [Act.put, List.setIfInBounds_toArray, List.set_cons_zero, List.set_cons_succ]
        refine' wpAnyH_take (i := 8) (oi := ⟨some 74, _, _, _, _, _⟩) (v := .bool false) rfl (by kernel_rfl) (by kernel_rfl) (by kernel_rfl) (fun _ _ _ h => h) (.inl ⟨by kernel_rfl, fun W hW => by obtain ⟨g13, g14, g16, g17, g6, g8, gq, z0, z1, z2, z3, gx⟩ := hW; go_simp⟩) hHeld ?_
        simp only [Act.put, List.setIfInBounds_toArray, List.set_cons_zero, List.set_cons_succ]
        refine' wpAnyH_take (i := 9) (oi := ⟨some 75, _, _, _, _, _⟩) (v := .bool false) rfl (by kernel_rfl) (by kernel_rfl) (by kernel_rfl) (fun _ _ _ h => h) (.inl ⟨by kernel_rfl, fun W hW => by obtain ⟨g13, g14, g16, g17, g6, g8, gq, z0, z1, z2, z3, gx⟩ := hW; go_simp⟩) hHeld ?_
        simp only [Act.put, List.setIfInBounds_toArray, List.set_cons_zero, List.set_cons_succ]
        refine' wpAnyH_take (i := 10) (oi := ⟨some 76, _, _, _, _, _⟩) (v := .pointer (some ⟨w.heap.size, 14, none⟩)) rfl (by kernel_rfl) (by kernel_rfl) (by kernel_rfl) (fun _ _ _ h => h) (.inl ⟨by kernel_rfl, fun W hW => by obtain ⟨g13, g14, g16, g17, g6, g8, gq, z0, z1, z2, z3, gx⟩ := hW; go_simp⟩) hHeld ?_
        simp only [Act.put, List.setIfInBounds_toArray, List.set_cons_zero, List.set_cons_succ]
        refine' wpAnyH_take (i := 11) (oi := ⟨some 77, _, _, _, _, _⟩) (v := .slice (some ⟨bs, offs, none⟩) E.sh.length q.c3) rfl (by kernel_rfl) (by kernel_rfl) (by kernel_rfl) (fun _ _ _ h => h) (.inl ⟨by kernel_rfl, fun W hW => by obtain ⟨g13, g14, g16, g17, g6, g8, gq, z0, z1, z2, z3, gx⟩ := hW; go_simp⟩) hHeld ?_
        simp only [Act.put, List.setIfInBounds_toArray, List.set_cons_zero, List.set_cons_succ]
        refine' wpAnyH_take (i := 12) (oi := ⟨some 78, _, _, _, _, _⟩) (v := .int .i64 (j : Int)) rfl (by kernel_rfl) (by kernel_rfl) (by kernel_rfl) (fun _ _ _ h => h) (.inl ⟨by kernel_rfl, fun W hW => by obtain ⟨g13, g14, g16, g17, g6, g8, gq, z0, z1, z2, z3, gx⟩ := hW; go_simp⟩) hHeld ?_
        simp only [Act.put, List.setIfInBounds_toArray, List.set_cons_zero, List.set_cons_succ]
        refine' wpAnyH_take (i := 13) (oi := ⟨some 79, _, _, _, _, _⟩) (v := .pointer (some ⟨bs, offs + j * 4, none⟩)) rfl (by kernel_rfl) (by kernel_rfl) (by kernel_rfl) (fun _ _ _ h => h) (.inl ⟨by kernel_rfl, fun W hW => by obtain ⟨g13, g14, g16, g17, g6, g8, gq, z0, z1, z2, z3, gx⟩ := hW; go_simp⟩) hHeld ?_
        simp only [Act.put, List.setIfInBounds_toArray, List.set_cons_zero, List.set_cons_succ]
        refine' wpAnyH_take (i := 14) (oi := ⟨some 80, _, _, _, _, _⟩) (v := .agg #[.slice ai xl.length ci, .int .i64 mr, .int .i64 lt, .int .i64 ov]) rfl (by kernel_rfl) (by kernel_rfl) (by kernel_rfl) (fun _ _ _ h => h) (.inl ⟨by kernel_rfl, fun W hW => by obtain ⟨g13, g14, g16, g17, g6, g8, gq, z0, z1, z2, z3, gx⟩ := hW; go_simp⟩) hHeld ?_
        simp only [Act.put, List.setIfInBounds_toArray, List.set_cons_zero, List.set_cons_succ]
        refine wpAnyH_ready (rs := [15]) (by kernel_rfl) (by simp) ?_
        refine AllReadyH.cons (o := ⟨some 81, _, _, _, _, _⟩) rfl (fun KK hK => ?_) AllReadyH.nil
        go_simp
        refine (HC.out _ B4.out).mono ?_
        rintro e w3 ⟨rfl, hb⟩
        clear y0 hHeld
        have K4 := Lib.hid (K4.out.below hb)
        have S4 := Lib.hid (S4.out.below hb)
        have B4 := Lib.hid (B4.out.trans (hb.mono B4.out.size))
        clear hb
        have y0 := FX.out _ B4.out K4.out S4.out
        dsimp only
        refine (Go.Shut.out hK) _ _ y0 (fun hHeld => ?_)
        clear hK KK
        try simp only [Act.put, List.setIfInBounds_toArray, List.set_cons_zero, List.set_cons_succ]
        refine' wpAnyH_take (i := 16) (oi := ⟨some 82, _, _, _, _, _⟩) (v := .bool false) rfl (by kernel_rfl) (by kernel_rfl) (by kernel_rfl) (fun _ _ _ h => h) (.inl ⟨by kernel_rfl, fun W hW => by obtain ⟨g13, g14, g16, g17, g6, g8, gq, z0, z1, z2, z3, gx⟩ := hW; go_simp⟩) hHeld ?_
        simp only [Act.put, List.setIfInBounds_toArray, List.set_cons_zero, List.set_cons_succ]
        refine' wpAnyH_take (i := 17) (oi := ⟨some 83, _, _, _, _, _⟩) (v := .bool false) rfl (by kernel_rfl) (by kernel_rfl) (by kernel_rfl) (fun _ _ _ h => h) (.inl ⟨by kernel_rfl, fun W hW => by obtain ⟨g13, g14, g16, g17, g6, g8, gq, z0, z1, z2, z3, gx⟩ := hW; go_simp⟩) hHeld ?_
        simp only [Act.put, List.setIfInBounds_toArray, List.set_cons_zero, List.set_cons_succ]
        refine' wpAnyH_take (i := 18) (oi := ⟨some 84, _, _, _, _, _⟩) (v := .bool false) rfl (by kernel_rfl) (by kernel_rfl) (by kernel_rfl) (fun _ _ _ h => h) (.inl ⟨by kernel_rfl, fun W hW => by obtain ⟨g13, g14, g16, g17, g6, g8, gq, z0, z1, z2, z3, gx⟩ := hW; go_simp⟩) hHeld ?_
        simp only [Act.put, List.setIfInBounds_toArray, List.set_cons_zero, List.set_cons_succ]
        refine' wpAnyH_take (i := 19) (oi := ⟨some 85, _, _, _, _, _⟩) (v := .pointer (some ⟨w.heap.size, 14, none⟩)) rfl (by kernel_rfl) (by kernel_rfl) (by kernel_rfl) (fun _ _ _ h => h) (.inl ⟨by kernel_rfl, fun W hW => by obtain ⟨g13, g14, g16, g17, g6, g8, gq, z0, z1, z2, z3, gx⟩ := hW; go_simp⟩) hHeld ?_
        simp only [Act.put, List.setIfInBounds_toArray, List.set_cons_zero, List.set_cons_succ]
        refine' wpAnyH_take (i := 20) (oi := ⟨some 86, _, _, _, _, _⟩) (v := .slice (some ⟨bs, offs, none⟩) E.sh.length q.c3) rfl (by kernel_rfl) (by kernel_rfl) (by kernel_rfl) (fun _ _ _ h => h) (.inl ⟨by kernel_rfl, fun W hW => by obtain ⟨g13, g14, g16, g17, g6, g8, gq, z0, z1, z2, z3, gx⟩ := hW; go_simp⟩) hHeld ?_
        simp only [Act.put, List.setIfInBounds_toArray, List.set_cons_zero, List.set_cons_succ]
        refine' wpAnyH_take (i := 21) (oi := ⟨some 87, _, _, _, _, _⟩) (v := .int .i64 (j : Int)) rfl (by kernel_rfl) (by kernel_rfl) (by kernel_rfl) (fun _ _ _ h => h) (.inl ⟨by kernel_rfl, fun W hW => by obtain ⟨g13, g14, g16, g17, g6, g8, gq, z0, z1, z2, z3, gx⟩ := hW; go_simp⟩) hHeld ?_
        simp only [Act.put, List.setIfInBounds_toArray, List.set_cons_zero, List.set_cons_succ]
        refine' wpAnyH_take (i := 22) (oi := ⟨some 88, _, _, _, _, _⟩) (v := .pointer (some ⟨bs, offs + j * 4, none⟩)) rfl (by kernel_rfl) (by kernel_rfl) (by kernel_rfl) (fun _ _ _ h => h) (.inl ⟨by kernel_rfl, fun W hW => by obtain ⟨g13, g14, g16, g17, g6, g8, gq, z0, z1, z2, z3, gx⟩ := hW; go_simp⟩) hHeld ?_
        simp only [Act.put, List.setIfInBounds_toArray, List.set_cons_zero, List.set_cons_succ]
        refine' wpAnyH_take (i := 23) (oi := ⟨some 89, _, _, _, _, _⟩) (v := .pointer (some ⟨bs, offs + j * 4, none⟩)) rfl (by kernel_rfl) (by kernel_rfl) (by kernel_rfl) (fun _ _ _ h => h) (.inl ⟨by kernel_rfl, fun W hW => by obtain ⟨g13, g14, g16, g17, g6, g8, gq, z0, z1, z2, z3, gx⟩ := hW; go_simp⟩) hHeld ?_
        simp only [Act.put, List.setIfInBounds_toArray, List.set_cons_zero, List.set_cons_succ]
        refine' wpAnyH_take (i := 24) (oi := ⟨some 90, _, _, _, _, _⟩) (v := .slice ai xl.length ci) rfl (by kernel_rfl) (by kernel_rfl) (by kernel_rfl) (fun _ _ _ h => h) (.inl ⟨by kernel_rfl, fun W hW => by obtain ⟨g13, g14, g16, g17, g6, g8, gq, z0, z1, z2, z3, gx⟩ := hW; go_simp⟩) hHeld ?_
        simp only [Act.put, List.setIfInBounds_toArray, List.set_cons_zero, List.set_cons_succ]
        refine' wpAnyH_take (i := 25) (oi := ⟨some 91, _, _, _, _, _⟩) (v := .int .i64 (xl.length : Int)) rfl (by kernel_rfl) (by kernel_rfl) (by kernel_rfl) (fun _ _ _ h => h) (.inl ⟨by kernel_rfl, fun W hW => by obtain ⟨g13, g14, g16, g17, g6, g8, gq, z0, z1, z2, z3, gx⟩ := hW; go_simp⟩) hHeld ?_
        simp only [Act.put, List.setIfInBounds_toArray, List.set_cons_zero, List.set_cons_succ]
        refine' wpAnyH_take (i := 26) (oi := ⟨some 92, _, _, _, _, _⟩) (v := .pointer (some ⟨w.heap.size + 1, 8, none⟩)) rfl (by kernel_rfl) (by kernel_rfl) (by kernel_rfl) (fun _ _ _ h => h) (.inl ⟨by kernel_rfl, fun W hW => by obtain ⟨g13, g14, g16, g17, g6, g8, gq, z0, z1, z2, z3, gx⟩ := hW; go_simp⟩) hHeld ?_
        simp only [Act.put, List.setIfInBounds_toArray, List.set_cons_zero, List.set_cons_succ]
        refine' wpAnyH_take (i := 27) (oi := ⟨some 93, _, _, _, _, _⟩) (v := .int .i64 E.s8) rfl (by kernel_rfl) (by kernel_rfl) (by kernel_rfl) (fun _ _ _ h => h) (.inl ⟨by kernel_rfl, fun W hW => by obtain ⟨g13, g14, g16, g17, g6, g8, gq, z0, z1, z2, z3, gx⟩ := hW; go_simp⟩) hHeld ?_
        simp only [Act.put, List.setIfInBounds_toArray, List.set_cons_zero, List.set_cons_succ]
        refine' wpAnyH_take (i := 28) (oi := ⟨some 94, _, _, _, _, _⟩) (v := .bool true) rfl (by kernel_rfl) (by kernel_rfl) (by kernel_rfl) (fun _ _ _ h => h) (.inl ⟨by kernel_rfl, fun W hW => by obtain ⟨g13, g14, g16, g17, g6, g8, gq, z0, z1, z2, z3, gx⟩ := hW; go_simp⟩) hHeld ?_
        simp only [Act.put, List.setIfInBounds_toArray, List.set_cons_zero, List.set_cons_succ]
        refine' wpAnyH_take (i := 29) (oi := ⟨some 95, _, _, _, _, _⟩) (v := .bool true) rfl (by kernel_rfl) (by kernel_rfl) (by kernel_rfl) (fun _ _ _ h => h) (.inl ⟨by kernel_rfl, fun W hW => by obtain ⟨g13, g14, g16, g17, g6, g8, gq, z0, z1, z2, z3, gx⟩ := hW; go_simp⟩) hHeld ?_
        simp only [Act.put, List.setIfInBounds_toArray, List.set_cons_zero, List.set_cons_succ]
        refine' wpAnyH_take (i := 30) (oi := ⟨some 96, _, _, _, _, _⟩) (v := .bool true) rfl (by kernel_rfl) (by kernel_rfl) (by kernel_rfl) (fun _ _ _ h => h) (.inl ⟨by kernel_rfl, fun W hW => by obtain ⟨g13, g14, g16, g17, g6, g8, gq, z0, z1, z2, z3, gx⟩ := hW; go_simp⟩) hHeld ?_
        simp only [Act.put, List.setIfInBounds_toArray, List.set_cons_zero, List.set_cons_succ]
        refine' wpAnyH_take (i := 31) (oi := ⟨some 97, _, _, _, _, _⟩) (v := undef) rfl (by kernel_rfl) (by kernel_rfl) (by kernel_rfl) (fun _ _ _ h => h) (.inr ⟨by kernel_rfl, rfl⟩) hHeld ?_
        simp only [Act.put, List.setIfInBounds_toArray, List.set_cons_zero, List.set_cons_succ]
        refine' wpAnyH_take (i := 32) (oi := ⟨some 98, _, _, _, _, _⟩) (v := undef) rfl (by kernel_rfl) (by kernel_rfl) (by kernel_rfl) (fun _ _ _ h => h) (.inr ⟨by kernel_rfl, rfl⟩) hHeld ?_
        simp only [Act.put, List.setIfInBounds_toArray, List.set_cons_zero, List.set_cons_succ]
        refine' wpAnyH_take (i := 33) (oi := ⟨some 99, _, _, _, _, _⟩) (v := undef) rfl (by kernel_rfl) (by kernel_rfl) (by kernel_rfl) (fun _ _ _ h => h) (.inr ⟨by kernel_rfl, rfl⟩) hHeld ?_
        simp only [Act.put, List.setIfInBounds_toArray, List.set_cons_zero, List.set_cons_succ]
        refine' wpAnyH_take (i := 34) (oi := ⟨some 100, _, _, _, _, _⟩) (v := undef) rfl (by kernel_rfl) (by kernel_rfl) (by kernel_rfl) (fun _ _ _ h => h) (.inr ⟨by kernel_rfl, rfl⟩) hHeld ?_
        simp only [Act.put, List.setIfInBounds_toArray, List.set_cons_zero, List.set_cons_succ]
        refine' wpAnyH_take (i := 35) (oi := ⟨some 101, _, _, _, _, _⟩) (v := undef) rfl (by kernel_rfl) (by kernel_rfl) (by kernel_rfl) (fun _ _ _ h => h) (.inr ⟨by kernel_rfl, rfl⟩) hHeld ?_
        simp only [Act.put, List.setIfInBounds_toArray, List.set_cons_zero, List.set_cons_succ]
        refine' wpAnyH_take (i := 36) (oi := ⟨some 102, _, _, _, _, _⟩) (v := undef) rfl (by kernel_rfl) (by kernel_rfl) (by kernel_rfl) (fun _ _ _ h => h) (.inr ⟨by kernel_rfl, rfl⟩) hHeld ?_
        simp only [Act.put, List.setIfInBounds_toArray, List.set_cons_zero, List.set_cons_succ]
        refine' wpAnyH_take (i := 37) (oi := ⟨some 103, _, _, _, _, _⟩) (v := undef) rfl (by kernel_rfl) (by kernel_rfl) (by kernel_rfl) (fun _ _ _ h => h) (.inr ⟨by kernel_rfl, rfl⟩) hHeld ?_
        simp only [Act.put, List.setIfInBounds_toArray, List.set_cons_zero, List.set_cons_succ]
        refine' wpAnyH_take (i := 38) (oi := ⟨some 104, _, _, _, _, _⟩) (v := undef) rfl (by kernel_rfl) (by kernel_rfl) (by kernel_rfl) (fun _ _ _ h => h) (.inr ⟨by kernel_rfl, rfl⟩) hHeld ?_
        simp only [Act.put, List.setIfInBounds_toArray, List.set_cons_zero, List.set_cons_succ]
        refine' wpAnyH_take (i := 39) (oi := ⟨some 105, _, _, _, _, _⟩) (v := undef) rfl (by kernel_rfl) (by kernel_rfl) (by kernel_rfl) (fun _ _ _ h => h) (.inr ⟨by kernel_rfl, rfl⟩) hHeld ?_
        simp only [Act.put, List.setIfInBounds_toArray, List.set_cons_zero, List.set_cons_succ]
        refine' wpAnyH_take (i := 40) (oi := ⟨some 106, _, _, _, _, _⟩) (v := undef) rfl (by kernel_rfl) (by kernel_rfl) (by kernel_rfl) (fun _ _ _ h => h) (.inr ⟨by kernel_rfl, rfl⟩) hHeld ?_
        simp only [Act.put, List.setIfInBounds_toArray, List.set_cons_zero, List.set_cons_succ]
        refine' wpAnyH_take (i := 41) (oi := ⟨some 107, _, _, _, _, _⟩) (v := undef) rfl (by kernel_rfl) (by kernel_rfl) (by kernel_rfl) (fun _ _ _ h => h) (.inr ⟨by kernel_rfl, rfl⟩) hHeld ?_
        simp only [Act.put, List.setIfInBounds_toArray, List.set_cons_zero, List.set_cons_succ]
        refine' wpAnyH_take (i := 42) (oi := ⟨some 108, _, _, _, _, _⟩) (v := undef) rfl (by kernel_rfl) (by kernel_rfl) (by kernel_rfl) (fun _ _ _ h => h) (.inr ⟨by kernel_rfl, rfl⟩) hHeld ?_
        simp only [Act.put, List.setIfInBounds_toArray, List.set_cons_zero, List.set_cons_succ]
        refine' wpAnyH_take (i := 43) (oi := ⟨some 109, _, _, _, _, _⟩) (v := .bool true) rfl (by kernel_rfl) (by kernel_rfl) (by kernel_rfl) (fun _ _ _ h => h) (.inl ⟨by kernel_rfl, fun W hW => by obtain ⟨g13, g14, g16, g17, g6, g8, gq, z0, z1, z2, z3, gx⟩ := hW; go_simp⟩) hHeld ?_
        simp only [Act.put, List.setIfInBounds_toArray, List.set_cons_zero, List.set_cons_succ]
        refine' wpAnyH_take (i := 44) (oi := ⟨some 110, _, _, _, _, _⟩) (v := .bool true) rfl (by kernel_rfl) (by kernel_rfl) (by kernel_rfl) (fun _ _ _ h => h) (.inl ⟨by kernel_rfl, fun W hW => by obtain ⟨g13, g14, g16, g17, g6, g8, gq, z0, z1, z2, z3, gx⟩ := hW; go_simp⟩) hHeld ?_
        simp only [Act.put, List.setIfInBounds_toArray, List.set_cons_zero, List.set_cons_succ]
        refine' wpAnyH_take (i := 45) (oi := ⟨some 111, _, _, _, _, _⟩) (v := undef) rfl (by kernel_rfl) (by kernel_rfl) (by kernel_rfl) (fun _ _ _ h => h) (.inr ⟨by kernel_rfl, rfl⟩) hHeld ?_
        simp only [Act.put, List.setIfInBounds_toArray, List.set_cons_zero, List.set_cons_succ]
        refine' wpAnyH_take (i := 46) (oi := ⟨some 112, _, _, _, _, _⟩) (v := undef) rfl (by kernel_rfl) (by kernel_rfl) (by kernel_rfl) (fun _ _ _ h => h) (.inr ⟨by kernel_rfl, rfl⟩) hHeld ?_
        simp only [Act.put, List.setIfInBounds_toArray, List.set_cons_zero, List.set_cons_succ]
        refine' wpAnyH_take (i := 47) (oi := ⟨some 113, _, _, _, _, _⟩) (v := undef) rfl (by kernel_rfl) (by kernel_rfl) (by kernel_rfl) (fun _ _ _ h => h) (.inr ⟨by kernel_rfl, rfl⟩) hHeld ?_
        simp only [Act.put, List.setIfInBounds_toArray, List.set_cons_zero, List.set_cons_succ]
        refine' wpAnyH_take (i := 48) (oi := ⟨some 114, _, _, _, _, _⟩) (v := undef) rfl (by kernel_rfl) (by kernel_rfl) (by kernel_rfl) (fun _ _ _ h => h) (.inr ⟨by kernel_rfl, rfl⟩) hHeld ?_
        simp only [Act.put, List.setIfInBounds_toArray, List.set_cons_zero, List.set_cons_succ]
        refine' wpAnyH_take (i := 49) (oi := ⟨some 115, _, _, _, _, _⟩) (v := undef) rfl (by kernel_rfl) (by kernel_rfl) (by kernel_rfl) (fun _ _ _ h => h) (.inr ⟨by kernel_rfl, rfl⟩) hHeld ?_
        simp only [Act.put, List.setIfInBounds_toArray, List.set_cons_zero, List.set_cons_succ]
        refine' wpAnyH_take (i := 50) (oi := ⟨some 116, _, _, _, _, _⟩) (v := undef) rfl (by kernel_rfl) (by kernel_rfl) (by kernel_rfl) (fun _ _ _ h => h) (.inr ⟨by kernel_rfl, rfl⟩) hHeld ?_
        simp only [Act.put, List.setIfInBounds_toArray, List.set_cons_zero, List.set_cons_succ]
        refine' wpAnyH_take (i := 51) (oi := ⟨some 117, _, _, _, _, _⟩) (v := undef) rfl (by kernel_rfl) (by kernel_rfl) (by kernel_rfl) (fun _ _ _ h => h) (.inr ⟨by kernel_rfl, rfl⟩) hHeld ?_
        simp only [Act.put, List.setIfInBounds_toArray, List.set_cons_zero, List.set_cons_succ]
        refine' wpAnyH_take (i := 52) (oi := ⟨some 118, _, _, _, _, _⟩) (v := undef) rfl (by kernel_rfl) (by kernel_rfl) (by kernel_rfl) (fun _ _ _ h => h) (.inr ⟨by kernel_rfl, rfl⟩) hHeld ?_
        simp only [Act.put, List.setIfInBounds_toArray, List.set_cons_zero, List.set_cons_succ]
        refine' wpAnyH_take (i := 53) (oi := ⟨some 119, _, _, _, _, _⟩) (v := .bool true) rfl (by kernel_rfl) (by kernel_rfl) (by kernel_rfl) (fun _ _ _ h => h) (.inl ⟨by kernel_rfl, fun W hW => by obtain ⟨g13, g14, g16, g17, g6, g8, gq, z0, z1, z2, z3, gx⟩ := hW; go_simp⟩) hHeld ?_
        simp only [Act.put, List.setIfInBounds_toArray, List.set_cons_zero, List.set_cons_succ]
        refine wpAnyH_done (by kernel_rfl) ?_ _
        clear y0 hHeld
        go_wp2
        go_ret
        exact ⟨by rw [ZZ.out]; rfl, B4.out⟩
      | false =>
      cases h4 : decide (x < mr) with
      | true =>
        have ZZ := Lib.hid (HNO.out (by have := of_decide_eq_true h4; rw [decide_eq_false (show ¬ mr ≤ x by omega)]; simp))
        go_wp2_with fail
        refine wp_region_held_drew (S := fun W => W.cell? ⟨w.heap.size, 13, none⟩ = some (.slice (some ⟨bq, offq, none⟩) nq q.c2) ∧ W.cell? ⟨w.heap.size, 14, none⟩ = some (.slice (some ⟨bs, offs, none⟩) E.sh.length q.c3) ∧ W.cell? ⟨w.heap.size, 16, none⟩ = some (.int .i64 E.mark) ∧ W.cell? ⟨w.heap.size, 17, none⟩ = some (.slice (some ⟨bt, offt, none⟩) nt q.c5) ∧ W.cell? ⟨w.heap.size + 1, 6, none⟩ = some (.int .i64 E.s6) ∧ W.cell? ⟨w.heap.size + 1, 8, none⟩ = some (.int .i64 E.s8) ∧ W.cell? ⟨bq, offq + j, none⟩ = some (.slice qi row.length di) ∧ W.cell? ⟨bs, offs + j * 4, none⟩ = some (.slice ai xl.length ci) ∧ W.cell? ⟨bs, offs + j * 4 + 1, none⟩ = some (.int .i64 mr) ∧ W.cell? ⟨bs, offs + j * 4 + 2, none⟩ = some (.int .i64 lt) ∧ W.cell? ⟨bs, offs + j * 4 + 3, none⟩ = some (.int .i64 ov) ∧ W.cell? ⟨bt, offt + j, none⟩ = some (.int .i64 x)) (by kernel_rfl) y0 (fun hHeld => ?_)
        refine' wpAnyH_take (i := 0) (oi := ⟨some 66, _, _, _, _, _⟩) (v := .pointer (some ⟨w.heap.size, 13, none⟩)) rfl (by kernel_rfl) (by kernel_rfl) (by kernel_rfl) (fun _ _ _ h => h) (.inl ⟨by kernel_rfl, fun W hW => by obtain ⟨g13, g14, g16, g17, g6, g8, gq, z0, z1, z2, z3, gx⟩ := hW; go_simp⟩) hHeld ?_
        simp only [Act.put, List.setIfInBounds_toArray, List.set_cons_zero, List.set_cons_succ]
        refine' wpAnyH_take (i := 1) (oi := ⟨some 67, _, _, _, _, _⟩) (v := .slice (some ⟨bq, offq, none⟩) nq q.c2) rfl (by kernel_rfl) (by kernel_rfl) (by kernel_rfl) (fun _ _ _ h => h) (.inl ⟨by kernel_rfl, fun W hW => by obtain ⟨g13, g14, g16, g17, g6, g8, gq, z0, z1, z2, z3, gx⟩ := hW; go_simp⟩) hHeld ?_
        simp only [Act.put, List.setIfInBounds_toArray, List.set_cons_zero, List.set_cons_succ]
        refine' wpAnyH_take (i := 2) (oi := ⟨some 68, _, _, _, _, _⟩) (v := .int .i64 (j : Int)) rfl (by kernel_rfl) (by kernel_rfl) (by kernel_rfl) (fun _ _ _ h => h) (.inl ⟨by kernel_rfl, fun W hW => by obtain ⟨g13, g14, g16, g17, g6, g8, gq, z0, z1, z2, z3, gx⟩ := hW; go_simp⟩) hHeld ?_
        simp only [Act.put, List.setIfInBounds_toArray, List.set_cons_zero, List.set_cons_succ]
        refine' wpAnyH_take (i := 3) (oi := ⟨some 69, _, _, _, _, _⟩) (v := .pointer (some ⟨bq, offq + j, none⟩)) rfl (by kernel_rfl) (by kernel_rfl) (by kernel_rfl) (fun _ _ _ h => h) (.inl ⟨by kernel_rfl, fun W hW => by obtain ⟨g13, g14, g16, g17, g6, g8, gq, z0, z1, z2, z3, gx⟩ := hW; go_simp⟩) hHeld ?_
        simp only [Act.put, List.setIfInBounds_toArray, List.set_cons_zero, List.set_cons_succ]
        refine' wpAnyH_take (i := 4) (oi := ⟨some 70, _, _, _, _, _⟩) (v := .slice qi row.length di) rfl (by kernel_rfl) (by kernel_rfl) (by kernel_rfl) (fun _ _ _ h => h) (.inl ⟨by kernel_rfl, fun W hW => by obtain ⟨g13, g14, g16, g17, g6, g8, gq, z0, z1, z2, z3, gx⟩ := hW; go_simp⟩) hHeld ?_
        simp only [Act.put, List.setIfInBounds_toArray, List.set_cons_zero, List.set_cons_succ]
        refine' wpAnyH_take (i := 5) (oi := ⟨some 71, _, _, _, _, _⟩) (v := .int .i64 (row.length : Int)) rfl (by kernel_rfl) (by kernel_rfl) (by kernel_rfl) (fun _ _ _ h => h) (.inl ⟨by kernel_rfl, fun W hW => by obtain ⟨g13, g14, g16, g17, g6, g8, gq, z0, z1, z2, z3, gx⟩ := hW; go_simp⟩) hHeld ?_
        simp only [Act.put, List.setIfInBounds_toArray, List.set_cons_zero, List.set_cons_succ]
        refine' wpAnyH_take (i := 6) (oi := ⟨some 72, _, _, _, _, _⟩) (v := .pointer (some ⟨w.heap.size + 1, 6, none⟩)) rfl (by kernel_rfl) (by kernel_rfl) (by kernel_rfl) (fun _ _ _ h => h) (.inl ⟨by kernel_rfl, fun W hW => by obtain ⟨g13, g14, g16, g17, g6, g8, gq, z0, z1, z2, z3, gx⟩ := hW; go_simp⟩) hHeld ?_
        simp only [Act.put, List.setIfInBounds_toArray, List.set_cons_zero, List.set_cons_succ]
        refine' wpAnyH_take (i := 7) (oi := ⟨some 73, _, _, _, _, _⟩) (v := .int .i64 E.s6) rfl (by kernel_rfl) (by kernel_rfl) (by kernel_rfl) (fun _ _ _ h => h) (.inl ⟨by kernel_rfl, fun W hW => by obtain ⟨g13, g14, g16, g17, g6, g8, gq, z0, z1, z2, z3, gx⟩ := hW; go_simp⟩) hHeld ?_
        simp only [Act.put, List.setIfInBounds_toArray, List.set_cons_zero, List.set_cons_succ]
        refine' wpAnyH_take (i := 8) (oi := ⟨some 74, _, _, _, _, _⟩) (v := .bool false) rfl (by kernel_rfl) (by kernel_rfl) (by kernel_rfl) (fun _ _ _ h => h) (.inl ⟨by kernel_rfl, fun W hW => by obtain ⟨g13, g14, g16, g17, g6, g8, gq, z0, z1, z2, z3, gx⟩ := hW; go_simp⟩) hHeld ?_
        simp only [Act.put, List.setIfInBounds_toArray, List.set_cons_zero, List.set_cons_succ]
        refine' wpAnyH_take (i := 9) (oi := ⟨some 75, _, _, _, _, _⟩) (v := .bool false) rfl (by kernel_rfl) (by kernel_rfl) (by kernel_rfl) (fun _ _ _ h => h) (.inl ⟨by kernel_rfl, fun W hW => by obtain ⟨g13, g14, g16, g17, g6, g8, gq, z0, z1, z2, z3, gx⟩ := hW; go_simp⟩) hHeld ?_
        simp only [Act.put, List.setIfInBounds_toArray, List.set_cons_zero, List.set_cons_succ]
        refine' wpAnyH_take (i := 10) (oi := ⟨some 76, _, _, _, _, _⟩) (v := .pointer (some ⟨w.heap.size, 14, none⟩)) rfl (by kernel_rfl) (by kernel_rfl) (by kernel_rfl) (fun _ _ _ h => h) (.inl ⟨by kernel_rfl, fun W hW => by obtain ⟨g13, g14, g16, g17, g6, g8, gq, z0, z1, z2, z3, gx⟩ := hW; go_simp⟩) hHeld ?_
        simp only [Act.put, List.setIfInBounds_toArray, List.set_cons_zero, List.set_cons_succ]
        refine' wpAnyH_take (i := 11) (oi := ⟨some 77, _, _, _, _, _⟩) (v := .slice (some ⟨bs, offs, none⟩) E.sh.length q.c3) rfl (by kernel_rfl) (by kernel_rfl) (by kernel_rfl) (fun _ _ _ h => h) (.inl ⟨by kernel_rfl, fun W hW => by obtain ⟨g13, g14, g16, g17, g6, g8, gq, z0, z1, z2, z3, gx⟩ := hW; go_simp⟩) hHeld ?_
        simp only [Act.put, List.setIfInBounds_toArray, List.set_cons_zero, List.set_cons_succ]
        refine' wpAnyH_take (i := 12) (oi := ⟨some 78, _, _, _, _, _⟩) (v := .int .i64 (j : Int)) rfl (by kernel_rfl) (by kernel_rfl) (by kernel_rfl) (fun _ _ _ h => h) (.inl ⟨by kernel_rfl, fun W hW => by obtain ⟨g13, g14, g16, g17, g6, g8, gq, z0, z1, z2, z3, gx⟩ := hW; go_simp⟩) hHeld ?_
        simp only [Act.put, List.setIfInBounds_toArray, List.set_cons_zero, List.set_cons_succ]
        refine' wpAnyH_take (i := 13) (oi := ⟨some 79, _, _, _, _, _⟩) (v := .pointer (some ⟨bs, offs + j * 4, none⟩)) rfl (by kernel_rfl) (by kernel_rfl) (by kernel_rfl) (fun _ _ _ h => h) (.inl ⟨by kernel_rfl, fun W hW => by obtain ⟨g13, g14, g16, g17, g6, g8, gq, z0, z1, z2, z3, gx⟩ := hW; go_simp⟩) hHeld ?_
        simp only [Act.put, List.setIfInBounds_toArray, List.set_cons_zero, List.set_cons_succ]
        refine' wpAnyH_take (i := 14) (oi := ⟨some 80, _, _, _, _, _⟩) (v := .agg #[.slice ai xl.length ci, .int .i64 mr, .int .i64 lt, .int .i64 ov]) rfl (by kernel_rfl) (by kernel_rfl) (by kernel_rfl) (fun _ _ _ h => h) (.inl ⟨by kernel_rfl, fun W hW => by obtain ⟨g13, g14, g16, g17, g6, g8, gq, z0, z1, z2, z3, gx⟩ := hW; go_simp⟩) hHeld ?_
        simp only [Act.put, List.setIfInBounds_toArray, List.set_cons_zero, List.set_cons_succ]
        refine wpAnyH_ready (rs := [15]) (by kernel_rfl) (by simp) ?_
        refine AllReadyH.cons (o := ⟨some 81, _, _, _, _, _⟩) rfl (fun KK hK => ?_) AllReadyH.nil
        go_simp
        refine (HC.out _ B4.out).mono ?_
        rintro e w3 ⟨rfl, hb⟩
        clear y0 hHeld
        have K4 := Lib.hid (K4.out.below hb)
        have S4 := Lib.hid (S4.out.below hb)
        have B4 := Lib.hid (B4.out.trans (hb.mono B4.out.size))
        clear hb
        have y0 := FX.out _ B4.out K4.out S4.out
        dsimp only
        refine (Go.Shut.out hK) _ _ y0 (fun hHeld => ?_)
        clear hK KK
        try simp only [Act.put, List.setIfInBounds_toArray, List.set_cons_zero, List.set_cons_succ]
        refine' wpAnyH_take (i := 16) (oi := ⟨some 82, _, _, _, _, _⟩) (v := .bool false) rfl (by kernel_rfl) (by kernel_rfl) (by kernel_rfl) (fun _ _ _ h => h) (.inl ⟨by kernel_rfl, fun W hW => by obtain ⟨g13, g14, g16, g17, g6, g8, gq, z0, z1, z2, z3, gx⟩ := hW; go_simp⟩) hHeld ?_
        simp only [Act.put, List.setIfInBounds_toArray, List.set_cons_zero, List.set_cons_succ]
        refine' wpAnyH_take (i := 17) (oi := ⟨some 83, _, _, _, _, _⟩) (v := .bool false) rfl (by kernel_rfl) (by kernel_rfl) (by kernel_rfl) (fun _ _ _ h => h) (.inl ⟨by kernel_rfl, fun W hW => by obtain ⟨g13, g14, g16, g17, g6, g8, gq, z0, z1, z2, z3, gx⟩ := hW; go_simp⟩) hHeld ?_
        simp only [Act.put, List.setIfInBounds_toArray, List.set_cons_zero, List.set_cons_succ]
        refine' wpAnyH_take (i := 18) (oi := ⟨some 84, _, _, _, _, _⟩) (v := .bool false) rfl (by kernel_rfl) (by kernel_rfl) (by kernel_rfl) (fun _ _ _ h => h) (.inl ⟨by kernel_rfl, fun W hW => by obtain ⟨g13, g14, g16, g17, g6, g8, gq, z0, z1, z2, z3, gx⟩ := hW; go_simp⟩) hHeld ?_
        simp only [Act.put, List.setIfInBounds_toArray, List.set_cons_zero, List.set_cons_succ]
        refine' wpAnyH_take (i := 19) (oi := ⟨some 85, _, _, _, _, _⟩) (v := .pointer (some ⟨w.heap.size, 14, none⟩)) rfl (by kernel_rfl) (by kernel_rfl) (by kernel_rfl) (fun _ _ _ h => h) (.inl ⟨by kernel_rfl, fun W hW => by obtain ⟨g13, g14, g16, g17, g6, g8, gq, z0, z1, z2, z3, gx⟩ := hW; go_simp⟩) hHeld ?_
        simp only [Act.put, List.setIfInBounds_toArray, List.set_cons_zero, List.set_cons_succ]
        refine' wpAnyH_take (i := 20) (oi := ⟨some 86, _, _, _, _, _⟩) (v := .slice (some ⟨bs, offs, none⟩) E.sh.length q.c3) rfl (by kernel_rfl) (by kernel_rfl) (by kernel_rfl) (fun _ _ _ h => h) (.inl ⟨by kernel_rfl, fun W hW => by obtain ⟨g13, g14, g16, g17, g6, g8, gq, z0, z1, z2, z3, gx⟩ := hW; go_simp⟩) hHeld ?_
        simp only [Act.put, List.setIfInBounds_toArray, List.set_cons_zero, List.set_cons_succ]
        refine' wpAnyH_take (i := 21) (oi := ⟨some 87, _, _, _, _, _⟩) (v := .int .i64 (j : Int)) rfl (by kernel_rfl) (by kernel_rfl) (by kernel_rfl) (fun _ _ _ h => h) (.inl ⟨by kernel_rfl, fun W hW => by obtain ⟨g13, g14, g16, g17, g6, g8, gq, z0, z1, z2, z3, gx⟩ := hW; go_simp⟩) hHeld ?_
        simp only [Act.put, List.setIfInBounds_toArray, List.set_cons_zero, List.set_cons_succ]
        refine' wpAnyH_take (i := 22) (oi := ⟨some 88, _, _, _, _, _⟩) (v := .pointer (some ⟨bs, offs + j * 4, none⟩)) rfl (by kernel_rfl) (by kernel_rfl) (by kernel_rfl) (fun _ _ _ h => h) (.inl ⟨by kernel_rfl, fun W hW => by obtain ⟨g13, g14, g16, g17, g6, g8, gq, z0, z1, z2, z3, gx⟩ := hW; go_simp⟩) hHeld ?_
        simp only [Act.put, List.setIfInBounds_toArray, List.set_cons_zero, List.set_cons_succ]
        refine' wpAnyH_take (i := 23) (oi := ⟨some 89, _, _, _, _, _⟩) (v := .pointer (some ⟨bs, offs + j * 4, none⟩)) rfl (by kernel_rfl) (by kernel_rfl) (by kernel_rfl) (fun _ _ _ h => h) (.inl ⟨by kernel_rfl, fun W hW => by obtain ⟨g13, g14, g16, g17, g6, g8, gq, z0, z1, z2, z3, gx⟩ := hW; go_simp⟩) hHeld ?_
        simp only [Act.put, List.setIfInBounds_toArray, List.set_cons_zero, List.set_cons_succ]
        refine' wpAnyH_take (i := 24) (oi := ⟨some 90, _, _, _, _, _⟩) (v := .slice ai xl.length ci) rfl (by kernel_rfl) (by kernel_rfl) (by kernel_rfl) (fun _ _ _ h => h) (.inl ⟨by kernel_rfl, fun W hW => by obtain ⟨g13, g14, g16, g17, g6, g8, gq, z0, z1, z2, z3, gx⟩ := hW; go_simp⟩) hHeld ?_
        simp only [Act.put, List.setIfInBounds_toArray, List.set_cons_zero, List.set_cons_succ]
        refine' wpAnyH_take (i := 25) (oi := ⟨some 91, _, _, _, _, _⟩) (v := .int .i64 (xl.length : Int)) rfl (by kernel_rfl) (by kernel_rfl) (by kernel_rfl) (fun _ _ _ h => h) (.inl ⟨by kernel_rfl, fun W hW => by obtain ⟨g13, g14, g16, g17, g6, g8, gq, z0, z1, z2, z3, gx⟩ := hW; go_simp⟩) hHeld ?_
        simp only [Act.put, List.setIfInBounds_toArray, List.set_cons_zero, List.set_cons_succ]
        refine' wpAnyH_take (i := 26) (oi := ⟨some 92, _, _, _, _, _⟩) (v := .pointer (some ⟨w.heap.size + 1, 8, none⟩)) rfl (by kernel_rfl) (by kernel_rfl) (by kernel_rfl) (fun _ _ _ h => h) (.inl ⟨by kernel_rfl, fun W hW => by obtain ⟨g13, g14, g16, g17, g6, g8, gq, z0, z1, z2, z3, gx⟩ := hW; go_simp⟩) hHeld ?_
        simp only [Act.put, List.setIfInBounds_toArray, List.set_cons_zero, List.set_cons_succ]
        refine' wpAnyH_take (i := 27) (oi := ⟨some 93, _, _, _, _, _⟩) (v := .int .i64 E.s8) rfl (by kernel_rfl) (by kernel_rfl) (by kernel_rfl) (fun _ _ _ h => h) (.inl ⟨by kernel_rfl, fun W hW => by obtain ⟨g13, g14, g16, g17, g6, g8, gq, z0, z1, z2, z3, gx⟩ := hW; go_simp⟩) hHeld ?_
        simp only [Act.put, List.setIfInBounds_toArray, List.set_cons_zero, List.set_cons_succ]
        refine' wpAnyH_take (i := 28) (oi := ⟨some 94, _, _, _, _, _⟩) (v := .bool false) rfl (by kernel_rfl) (by kernel_rfl) (by kernel_rfl) (fun _ _ _ h => h) (.inl ⟨by kernel_rfl, fun W hW => by obtain ⟨g13, g14, g16, g17, g6, g8, gq, z0, z1, z2, z3, gx⟩ := hW; go_simp⟩) hHeld ?_
        simp only [Act.put, List.setIfInBounds_toArray, List.set_cons_zero, List.set_cons_succ]
        refine' wpAnyH_take (i := 29) (oi := ⟨some 95, _, _, _, _, _⟩) (v := .bool false) rfl (by kernel_rfl) (by kernel_rfl) (by kernel_rfl) (fun _ _ _ h => h) (.inl ⟨by kernel_rfl, fun W hW => by obtain ⟨g13, g14, g16, g17, g6, g8, gq, z0, z1, z2, z3, gx⟩ := hW; go_simp⟩) hHeld ?_
        simp only [Act.put, List.setIfInBounds_toArray, List.set_cons_zero, List.set_cons_succ]
        refine' wpAnyH_take (i := 30) (oi := ⟨some 96, _, _, _, _, _⟩) (v := .bool false) rfl (by kernel_rfl) (by kernel_rfl) (by kernel_rfl) (fun _ _ _ h => h) (.inl ⟨by kernel_rfl, fun W hW => by obtain ⟨g13, g14, g16, g17, g6, g8, gq, z0, z1, z2, z3, gx⟩ := hW; go_simp⟩) hHeld ?_
        simp only [Act.put, List.setIfInBounds_toArray, List.set_cons_zero, List.set_cons_succ]
        refine' wpAnyH_take (i := 31) (oi := ⟨some 97, _, _, _, _, _⟩) (v := .pointer (some ⟨w.heap.size, 14, none⟩)) rfl (by kernel_rfl) (by kernel_rfl) (by kernel_rfl) (fun _ _ _ h => h) (.inl ⟨by kernel_rfl, fun W hW => by obtain ⟨g13, g14, g16, g17, g6, g8, gq, z0, z1, z2, z3, gx⟩ := hW; go_simp⟩) hHeld ?_
        simp only [Act.put, List.setIfInBounds_toArray, List.set_cons_zero, List.set_cons_succ]
        refine' wpAnyH_take (i := 32) (oi := ⟨some 98, _, _, _, _, _⟩) (v := .slice (some ⟨bs, offs, none⟩) E.sh.length q.c3) rfl (by kernel_rfl) (by kernel_rfl) (by kernel_rfl) (fun _ _ _ h => h) (.inl ⟨by kernel_rfl, fun W hW => by obtain ⟨g13, g14, g16, g17, g6, g8, gq, z0, z1, z2, z3, gx⟩ := hW; go_simp⟩) hHeld ?_
        simp only [Act.put, List.setIfInBounds_toArray, List.set_cons_zero, List.set_cons_succ]
        refine' wpAnyH_take (i := 33) (oi := ⟨some 99, _, _, _, _, _⟩) (v := .int .i64 (j : Int)) rfl (by kernel_rfl) (by kernel_rfl) (by kernel_rfl) (fun _ _ _ h => h) (.inl ⟨by kernel_rfl, fun W hW => by obtain ⟨g13, g14, g16, g17, g6, g8, gq, z0, z1, z2, z3, gx⟩ := hW; go_simp⟩) hHeld ?_
        simp only [Act.put, List.setIfInBounds_toArray, List.set_cons_zero, List.set_cons_succ]
        refine' wpAnyH_take (i := 34) (oi := ⟨some 100, _, _, _, _, _⟩) (v := .pointer (some ⟨bs, offs + j * 4, none⟩)) rfl (by kernel_rfl) (by kernel_rfl) (by kernel_rfl) (fun _ _ _ h => h) (.inl ⟨by kernel_rfl, fun W hW => by obtain ⟨g13, g14, g16, g17, g6, g8, gq, z0, z1, z2, z3, gx⟩ := hW; go_simp⟩) hHeld ?_
        simp only [Act.put, List.setIfInBounds_toArray, List.set_cons_zero, List.set_cons_succ]
        refine' wpAnyH_take (i := 35) (oi := ⟨some 101, _, _, _, _, _⟩) (v := .pointer (some ⟨bs, offs + j * 4 + 1, none⟩)) rfl (by kernel_rfl) (by kernel_rfl) (by kernel_rfl) (fun _ _ _ h => h) (.inl ⟨by kernel_rfl, fun W hW => by obtain ⟨g13, g14, g16, g17, g6, g8, gq, z0, z1, z2, z3, gx⟩ := hW; go_simp⟩) hHeld ?_
        simp only [Act.put, List.setIfInBounds_toArray, List.set_cons_zero, List.set_cons_succ]
        refine' wpAnyH_take (i := 36) (oi := ⟨some 102, _, _, _, _, _⟩) (v := .int .i64 mr) rfl (by kernel_rfl) (by kernel_rfl) (by kernel_rfl) (fun _ _ _ h => h) (.inl ⟨by kernel_rfl, fun W hW => by obtain ⟨g13, g14, g16, g17, g6, g8, gq, z0, z1, z2, z3, gx⟩ := hW; go_simp⟩) hHeld ?_
        simp only [Act.put, List.setIfInBounds_toArray, List.set_cons_zero, List.set_cons_succ]
        refine' wpAnyH_take (i := 37) (oi := ⟨some 103, _, _, _, _, _⟩) (v := .pointer (some ⟨w.heap.size, 17, none⟩)) rfl (by kernel_rfl) (by kernel_rfl) (by kernel_rfl) (fun _ _ _ h => h) (.inl ⟨by kernel_rfl, fun W hW => by obtain ⟨g13, g14, g16, g17, g6, g8, gq, z0, z1, z2, z3, gx⟩ := hW; go_simp⟩) hHeld ?_
        simp only [Act.put, List.setIfInBounds_toArray, List.set_cons_zero, List.set_cons_succ]
        refine' wpAnyH_take (i := 38) (oi := ⟨some 104, _, _, _, _, _⟩) (v := .slice (some ⟨bt, offt, none⟩) nt q.c5) rfl (by kernel_rfl) (by kernel_rfl) (by kernel_rfl) (fun _ _ _ h => h) (.inl ⟨by kernel_rfl, fun W hW => by obtain ⟨g13, g14, g16, g17, g6, g8, gq, z0, z1, z2, z3, gx⟩ := hW; go_simp⟩) hHeld ?_
        simp only [Act.put, List.setIfInBounds_toArray, List.set_cons_zero, List.set_cons_succ]
        refine' wpAnyH_take (i := 39) (oi := ⟨some 105, _, _, _, _, _⟩) (v := .int .i64 (j : Int)) rfl (by kernel_rfl) (by kernel_rfl) (by kernel_rfl) (fun _ _ _ h => h) (.inl ⟨by kernel_rfl, fun W hW => by obtain ⟨g13, g14, g16, g17, g6, g8, gq, z0, z1, z2, z3, gx⟩ := hW; go_simp⟩) hHeld ?_
        simp only [Act.put, List.setIfInBounds_toArray, List.set_cons_zero, List.set_cons_succ]
        refine' wpAnyH_take (i := 40) (oi := ⟨some 106, _, _, _, _, _⟩) (v := .pointer (some ⟨bt, offt + j, none⟩)) rfl (by kernel_rfl) (by kernel_rfl) (by kernel_rfl) (fun _ _ _ h => h) (.inl ⟨by kernel_rfl, fun W hW => by obtain ⟨g13, g14, g16, g17, g6, g8, gq, z0, z1, z2, z3, gx⟩ := hW; go_simp⟩) hHeld ?_
        simp only [Act.put, List.setIfInBounds_toArray, List.set_cons_zero, List.set_cons_succ]
        refine' wpAnyH_take (i := 41) (oi := ⟨some 107, _, _, _, _, _⟩) (v := .int .i64 x) rfl (by kernel_rfl) (by kernel_rfl) (by kernel_rfl) (fun _ _ _ h => h) (.inl ⟨by kernel_rfl, fun W hW => by obtain ⟨g13, g14, g16, g17, g6, g8, gq, z0, z1, z2, z3, gx⟩ := hW; go_simp⟩) hHeld ?_
        simp only [Act.put, List.setIfInBounds_toArray, List.set_cons_zero, List.set_cons_succ]
        refine' wpAnyH_take (i := 42) (oi := ⟨some 108, _, _, _, _, _⟩) (v := .bool true) rfl (by kernel_rfl) (by kernel_rfl) (by kernel_rfl) (fun _ _ _ h => h) (.inl ⟨by kernel_rfl, fun W hW => by obtain ⟨g13, g14, g16, g17, g6, g8, gq, z0, z1, z2, z3, gx⟩ := hW; go_simp⟩) hHeld ?_
        simp only [Act.put, List.setIfInBounds_toArray, List.set_cons_zero, List.set_cons_succ]
        refine' wpAnyH_take (i := 43) (oi := ⟨some 109, _, _, _, _, _⟩) (v := .bool true) rfl (by kernel_rfl) (by kernel_rfl) (by kernel_rfl) (fun _ _ _ h => h) (.inl ⟨by kernel_rfl, fun W hW => by obtain ⟨g13, g14, g16, g17, g6, g8, gq, z0, z1, z2, z3, gx⟩ := hW; go_simp⟩) hHeld ?_
        simp only [Act.put, List.setIfInBounds_toArray, List.set_cons_zero, List.set_cons_succ]
        refine' wpAnyH_take (i := 44) (oi := ⟨some 110, _, _, _, _, _⟩) (v := .bool true) rfl (by kernel_rfl) (by kernel_rfl) (by kernel_rfl) (fun _ _ _ h => h) (.inl ⟨by kernel_rfl, fun W hW => by obtain ⟨g13, g14, g16, g17, g6, g8, gq, z0, z1, z2, z3, gx⟩ := hW; go_simp⟩) hHeld ?_
        simp only [Act.put, List.setIfInBounds_toArray, List.set_cons_zero, List.set_cons_succ]
        refine' wpAnyH_take (i := 45) (oi := ⟨some 111, _, _, _, _, _⟩) (v := undef) rfl (by kernel_rfl) (by kernel_rfl) (by kernel_rfl) (fun _ _ _ h => h) (.inr ⟨by kernel_rfl, rfl⟩) hHeld ?_
        simp only [Act.put, List.setIfInBounds_toArray, List.set_cons_zero, List.set_cons_succ]
        refine' wpAnyH_take (i := 46) (oi := ⟨some 112, _, _, _, _, _⟩) (v := undef) rfl (by kernel_rfl) (by kernel_rfl) (by kernel_rfl) (fun _ _ _ h => h) (.inr ⟨by kernel_rfl, rfl⟩) hHeld ?_
        simp only [Act.put, List.setIfInBounds_toArray, List.set_cons_zero, List.set_cons_succ]
        refine' wpAnyH_take (i := 47) (oi := ⟨some 113, _, _, _, _, _⟩) (v := undef) rfl (by kernel_rfl) (by kernel_rfl) (by kernel_rfl) (fun _ _ _ h => h) (.inr ⟨by kernel_rfl, rfl⟩) hHeld ?_
        simp only [Act.put, List.setIfInBounds_toArray, List.set_cons_zero, List.set_cons_succ]
        refine' wpAnyH_take (i := 48) (oi := ⟨some 114, _, _, _, _, _⟩) (v := undef) rfl (by kernel_rfl) (by kernel_rfl) (by kernel_rfl) (fun _ _ _ h => h) (.inr ⟨by kernel_rfl, rfl⟩) hHeld ?_
        simp only [Act.put, List.setIfInBounds_toArray, List.set_cons_zero, List.set_cons_succ]
        refine' wpAnyH_take (i := 49) (oi := ⟨some 115, _, _, _, _, _⟩) (v := undef) rfl (by kernel_rfl) (by kernel_rfl) (by kernel_rfl) (fun _ _ _ h => h) (.inr ⟨by kernel_rfl, rfl⟩) hHeld ?_
        simp only [Act.put, List.setIfInBounds_toArray, List.set_cons_zero, List.set_cons_succ]
        refine' wpAnyH_take (i := 50) (oi := ⟨some 116, _, _, _, _, _⟩) (v := undef) rfl (by kernel_rfl) (by kernel_rfl) (by kernel_rfl) (fun _ _ _ h => h) (.inr ⟨by kernel_rfl, rfl⟩) hHeld ?_
        simp only [Act.put, List.setIfInBounds_toArray, List.set_cons_zero, List.set_cons_succ]
        refine' wpAnyH_take (i := 51) (oi := ⟨some 117, _, _, _, _, _⟩) (v := undef) rfl (by kernel_rfl) (by kernel_rfl) (by kernel_rfl) (fun _ _ _ h => h) (.inr ⟨by kernel_rfl, rfl⟩) hHeld ?_
        simp only [Act.put, List.setIfInBounds_toArray, List.set_cons_zero, List.set_cons_succ]
        refine' wpAnyH_take (i := 52) (oi := ⟨some 118, _, _, _, _, _⟩) (v := undef) rfl (by kernel_rfl) (by kernel_rfl) (by kernel_rfl) (fun _ _ _ h => h) (.inr ⟨by kernel_rfl, rfl⟩) hHeld ?_
        simp only [Act.put, List.setIfInBounds_toArray, List.set_cons_zero, List.set_cons_succ]
        refine' wpAnyH_take (i := 53) (oi := ⟨some 119, _, _, _, _, _⟩) (v := .bool true) rfl (by kernel_rfl) (by kernel_rfl) (by kernel_rfl) (fun _ _ _ h => h) (.inl ⟨by kernel_rfl, fun W hW => by obtain ⟨g13, g14, g16, g17, g6, g8, gq, z0, z1, z2, z3, gx⟩ := hW; go_simp⟩) hHeld ?_
        simp only [Act.put, List.setIfInBounds_toArray, List.set_cons_zero, List.set_cons_succ]
        refine wpAnyH_done (by kernel_rfl) ?_ _
        clear y0 hHeld
        go_wp2
        go_ret
        exact ⟨by rw [ZZ.out]; rfl, B4.out⟩
      | false =>
      cases h5 : decide (E.mark < x) with
      | true =>
        have ZZ := Lib.hid (HNO.out (by have := of_decide_eq_true h5; rw [decide_eq_false (show ¬ x ≤ E.mark by omega)]; simp))
        go_wp2_with fail
        refine wp_region_held_drew (S := fun W => W.cell? ⟨w.heap.size, 13, none⟩ = some (.slice (some ⟨bq, offq, none⟩) nq q.c2) ∧ W.cell? ⟨w.heap.size, 14, none⟩ = some (.slice (some ⟨bs, offs, none⟩) E.sh.length q.c3) ∧ W.cell? ⟨w.heap.size, 16, none⟩ = some (.int .i64 E.mark) ∧ W.cell? ⟨w.heap.size, 17, none⟩ = some (.slice (some ⟨bt, offt, none⟩) nt q.c5) ∧ W.cell? ⟨w.heap.size + 1, 6, none⟩ = some (.int .i64 E.s6) ∧ W.cell? ⟨w.heap.size + 1, 8, none⟩ = some (.int .i64 E.s8) ∧ W.cell? ⟨bq, offq + j, none⟩ = some (.slice qi row.length di) ∧ W.cell? ⟨bs, offs + j * 4, none⟩ = some (.slice ai xl.length ci) ∧ W.cell? ⟨bs, offs + j * 4 + 1, none⟩ = some (.int .i64 mr) ∧ W.cell? ⟨bs, offs + j * 4 + 2, none⟩ = some (.int .i64 lt) ∧ W.cell? ⟨bs, offs + j * 4 + 3, none⟩ = some (.int .i64 ov) ∧ W.cell? ⟨bt, offt + j, none⟩ = some (.int .i64 x)) (by kernel_rfl) y0 (fun hHeld => ?_)
        refine' wpAnyH_take (i := 0) (oi := ⟨some 66, _, _, _, _, _⟩) (v := .pointer (some ⟨w.heap.size, 13, none⟩)) rfl (by kernel_rfl) (by kernel_rfl) (by kernel_rfl) (fun _ _ _ h => h) (.inl ⟨by kernel_rfl, fun W hW => by obtain ⟨g13, g14, g16, g17, g6, g8, gq, z0, z1, z2, z3, gx⟩ := hW; go_simp⟩) hHeld ?_
        simp only [Act.put, List.setIfInBounds_toArray, List.set_cons_zero, List.set_cons_succ]
        refine' wpAnyH_take (i := 1) (oi := ⟨some 67, _, _, _, _, _⟩) (v := .slice (some ⟨bq, offq, none⟩) nq q.c2) rfl (by kernel_rfl) (by kernel_rfl) (by kernel_rfl) (fun _ _ _ h => h) (.inl ⟨by kernel_rfl, fun W hW => by obtain ⟨g13, g14, g16, g17, g6, g8, gq, z0, z1, z2, z3, gx⟩ := hW; go_simp⟩) hHeld ?_
        simp only [Act.put, List.setIfInBounds_toArray, List.set_cons_zero, List.set_cons_succ]
        refine' wpAnyH_take (i := 2) (oi := ⟨some 68, _, _, _, _, _⟩) (v := .int .i64 (j : Int)) rfl (by kernel_rfl) (by kernel_rfl) (by kernel_rfl) (fun _ _ _ h => h) (.inl ⟨by kernel_rfl, fun W hW => by obtain ⟨g13, g14, g16, g17, g6, g8, gq, z0, z1, z2, z3, gx⟩ := hW; go_simp⟩) hHeld ?_
        simp only [Act.put, List.setIfInBounds_toArray, List.set_cons_zero, List.set_cons_succ]
        refine' wpAnyH_take (i := 3) (oi := ⟨some 69, _, _, _, _, _⟩) (v := .pointer (some ⟨bq, offq + j, none⟩)) rfl (by kernel_rfl) (by kernel_rfl) (by kernel_rfl) (fun _ _ _ h => h) (.inl ⟨by kernel_rfl, fun W hW => by obtain ⟨g13, g14, g16, g17, g6, g8, gq, z0, z1, z2, z3, gx⟩ := hW; go_simp⟩) hHeld ?_
        simp only [Act.put, List.setIfInBounds_toArray, List.set_cons_zero, List.set_cons_succ]
        refine' wpAnyH_take (i := 4) (oi := ⟨some 70, _, _, _, _, _⟩) (v := .slice qi row.length di) rfl (by kernel_rfl) (by kernel_rfl) (by kernel_rfl) (fun _ _ _ h => h) (.inl ⟨by kernel_rfl, fun W hW => by obtain ⟨g13, g14, g16, g17, g6, g8, gq, z0, z1, z2, z3, gx⟩ := hW; go_simp⟩) hHeld ?_
        simp only [Act.put, List.setIfInBounds_toArray, List.set_cons_zero, List.set_cons_succ]
        refine' wpAnyH_take (i := 5) (oi := ⟨some 71, _, _, _, _, _⟩) (v := .int .i64 (row.length : Int)) rfl (by kernel_rfl) (by kernel_rfl) (by kernel_rfl) (fun _ _ _ h => h) (.inl ⟨by kernel_rfl, fun W hW => by obtain ⟨g13, g14, g16, g17, g6, g8, gq, z0, z1, z2, z3, gx⟩ := hW; go_simp⟩) hHeld ?_
        simp only [Act.put, List.setIfInBounds_toArray, List.set_cons_zero, List.set_cons_succ]
        refine' wpAnyH_take (i := 6) (oi := ⟨some 72, _, _, _, _, _⟩) (v := .pointer (some ⟨w.heap.size + 1, 6, none⟩)) rfl (by kernel_rfl) (by kernel_rfl) (by kernel_rfl) (fun _ _ _ h => h) (.inl ⟨by kernel_rfl, fun W hW => by obtain ⟨g13, g14, g16, g17, g6, g8, gq, z0, z1, z2, z3, gx⟩ := hW; go_simp⟩) hHeld ?_
        simp only [Act.put, List.setIfInBounds_toArray, List.set_cons_zero, List.set_cons_succ]
        refine' wpAnyH_take (i := 7) (oi := ⟨some 73, _, _, _, _, _⟩) (v := .int .i64 E.s6) rfl (by kernel_rfl) (by kernel_rfl) (by kernel_rfl) (fun _ _ _ h => h) (.inl ⟨by kernel_rfl, fun W hW => by obtain ⟨g13, g14, g16, g17, g6, g8, gq, z0, z1, z2, z3, gx⟩ := hW; go_simp⟩) hHeld ?_
        simp only [Act.put, List.setIfInBounds_toArray, List.set_cons_zero, List.set_cons_succ]
        refine' wpAnyH_take (i := 8) (oi := ⟨some 74, _, _, _, _, _⟩) (v := .bool false) rfl (by kernel_rfl) (by kernel_rfl) (by kernel_rfl) (fun _ _ _ h => h) (.inl ⟨by kernel_rfl, fun W hW => by obtain ⟨g13, g14, g16, g17, g6, g8, gq, z0, z1, z2, z3, gx⟩ := hW; go_simp⟩) hHeld ?_
        simp only [Act.put, List.setIfInBounds_toArray, List.set_cons_zero, List.set_cons_succ]
        refine' wpAnyH_take (i := 9) (oi := ⟨some 75, _, _, _, _, _⟩) (v := .bool false) rfl (by kernel_rfl) (by kernel_rfl) (by kernel_rfl) (fun _ _ _ h => h) (.inl ⟨by kernel_rfl, fun W hW => by obtain ⟨g13, g14, g16, g17, g6, g8, gq, z0, z1, z2, z3, gx⟩ := hW; go_simp⟩) hHeld ?_
        simp only [Act.put, List.setIfInBounds_toArray, List.set_cons_zero, List.set_cons_succ]
        refine' wpAnyH_take (i := 10) (oi := ⟨some 76, _, _, _, _, _⟩) (v := .pointer (some ⟨w.heap.size, 14, none⟩)) rfl (by kernel_rfl) (by kernel_rfl) (by kernel_rfl) (fun _ _ _ h => h) (.inl ⟨by kernel_rfl, fun W hW => by obtain ⟨g13, g14, g16, g17, g6, g8, gq, z0, z1, z2, z3, gx⟩ := hW; go_simp⟩) hHeld ?_
        simp only [Act.put, List.setIfInBounds_toArray, List.set_cons_zero, List.set_cons_succ]
        refine' wpAnyH_take (i := 11) (oi := ⟨some 77, _, _, _, _, _⟩) (v := .slice (some ⟨bs, offs, none⟩) E.sh.length q.c3) rfl (by kernel_rfl) (by kernel_rfl) (by kernel_rfl) (fun _ _ _ h => h) (.inl ⟨by kernel_rfl, fun W hW => by obtain ⟨g13, g14, g16, g17, g6, g8, gq, z0, z1, z2, z3, gx⟩ := hW; go_simp⟩) hHeld ?_
        simp only [Act.put, List.setIfInBounds_toArray, List.set_cons_zero, List.set_cons_succ]
        refine' wpAnyH_take (i := 12) (oi := ⟨some 78, _, _, _, _, _⟩) (v := .int .i64 (j : Int)) rfl (by kernel_rfl) (by kernel_rfl) (by kernel_rfl) (fun _ _ _ h => h) (.inl ⟨by kernel_rfl, fun W hW => by obtain ⟨g13, g14, g16, g17, g6, g8, gq, z0, z1, z2, z3, gx⟩ := hW; go_simp⟩) hHeld ?_
        simp only [Act.put, List.setIfInBounds_toArray, List.set_cons_zero, List.set_cons_succ]
        refine' wpAnyH_take (i := 13) (oi := ⟨some 79, _, _, _, _, _⟩) (v := .pointer (some ⟨bs, offs + j * 4, none⟩)) rfl (by kernel_rfl) (by kernel_rfl) (by kernel_rfl) (fun _ _ _ h => h) (.inl ⟨by kernel_rfl, fun W hW => by obtain ⟨g13, g14, g16, g17, g6, g8, gq, z0, z1, z2, z3, gx⟩ := hW; go_simp⟩) hHeld ?_
        simp only [Act.put, List.setIfInBounds_toArray, List.set_cons_zero, List.set_cons_succ]
        refine' wpAnyH_take (i := 14) (oi := ⟨some 80, _, _, _, _, _⟩) (v := .agg #[.slice ai xl.length ci, .int .i64 mr, .int .i64 lt, .int .i64 ov]) rfl (by kernel_rfl) (by kernel_rfl) (by kernel_rfl) (fun _ _ _ h => h) (.inl ⟨by kernel_rfl, fun W hW => by obtain ⟨g13, g14, g16, g17, g6, g8, gq, z0, z1, z2, z3, gx⟩ := hW; go_simp⟩) hHeld ?_
        simp only [Act.put, List.setIfInBounds_toArray, List.set_cons_zero, List.set_cons_succ]
        refine wpAnyH_ready (rs := [15]) (by kernel_rfl) (by simp) ?_
        refine AllReadyH.cons (o := ⟨some 81, _, _, _, _, _⟩) rfl (fun KK hK => ?_) AllReadyH.nil
        go_simp
        refine (HC.out _ B4.out).mono ?_
        rintro e w3 ⟨rfl, hb⟩
        clear y0 hHeld
        have K4 := Lib.hid (K4.out.below hb)
        have S4 := Lib.hid (S4.out.below hb)
        have B4 := Lib.hid (B4.out.trans (hb.mono B4.out.size))
        clear hb
        have y0 := FX.out _ B4.out K4.out S4.out
        dsimp only
        refine (Go.Shut.out hK) _ _ y0 (fun hHeld => ?_)
        clear hK KK
        try simp only [Act.put, List.setIfInBounds_toArray, List.set_cons_zero, List.set_cons_succ]
        refine' wpAnyH_take (i := 16) (oi := ⟨some 82, _, _, _, _, _⟩) (v := .bool false) rfl (by kernel_rfl) (by kernel_rfl) (by kernel_rfl) (fun _ _ _ h => h) (.inl ⟨by kernel_rfl, fun W hW => by obtain ⟨g13, g14, g16, g17, g6, g8, gq, z0, z1, z2, z3, gx⟩ := hW; go_simp⟩) hHeld ?_
        simp only [Act.put, List.setIfInBounds_toArray, List.set_cons_zero, List.set_cons_succ]
        refine' wpAnyH_take (i := 17) (oi := ⟨some 83, _, _, _, _, _⟩) (v := .bool false) rfl (by kernel_rfl) (by kernel_rfl) (by kernel_rfl) (fun _ _ _ h => h) (.inl ⟨by kernel_rfl, fun W hW => by obtain ⟨g13, g14, g16, g17, g6, g8, gq, z0, z1, z2, z3, gx⟩ := hW; go_simp⟩) hHeld ?_
        simp only [Act.put, List.setIfInBounds_toArray, List.set_cons_zero, List.set_cons_succ]
        refine' wpAnyH_take (i := 18) (oi := ⟨some 84, _, _, _, _, _⟩) (v := .bool false) rfl (by kernel_rfl) (by kernel_rfl) (by kernel_rfl) (fun _ _ _ h => h) (.inl ⟨by kernel_rfl, fun W hW => by obtain ⟨g13, g14, g16, g17, g6, g8, gq, z0, z1, z2, z3, gx⟩ := hW; go_simp⟩) hHeld ?_
        simp only [Act.put, List.setIfInBounds_toArray, List.set_cons_zero, List.set_cons_succ]
        refine' wpAnyH_take (i := 19) (oi := ⟨some 85, _, _, _, _, _⟩) (v := .pointer (some ⟨w.heap.size, 14, none⟩)) rfl (by kernel_rfl) (by kernel_rfl) (by kernel_rfl) (fun _ _ _ h => h) (.inl ⟨by kernel_rfl, fun W hW => by obtain ⟨g13, g14, g16, g17, g6, g8, gq, z0, z1, z2, z3, gx⟩ := hW; go_simp⟩) hHeld ?_
        simp only [Act.put, List.setIfInBounds_toArray, List.set_cons_zero, List.set_cons_succ]
        refine' wpAnyH_take (i := 20) (oi := ⟨some 86, _, _, _, _, _⟩) (v := .slice (some ⟨bs, offs, none⟩) E.sh.length q.c3) rfl (by kernel_rfl) (by kernel_rfl) (by kernel_rfl) (fun _ _ _ h => h) (.inl ⟨by kernel_rfl, fun W hW => by obtain ⟨g13, g14, g16, g17, g6, g8, gq, z0, z1, z2, z3, gx⟩ := hW; go_simp⟩) hHeld ?_
        simp only [Act.put, List.setIfInBounds_toArray, List.set_cons_zero, List.set_cons_succ]
        refine' wpAnyH_take (i := 21) (oi := ⟨some 87, _, _, _, _, _⟩) (v := .int .i64 (j : Int)) rfl (by kernel_rfl) (by kernel_rfl) (by kernel_rfl) (fun _ _ _ h => h) (.inl ⟨by kernel_rfl, fun W hW => by obtain ⟨g13, g14, g16, g17, g6, g8, gq, z0, z1, z2, z3, gx⟩ := hW; go_simp⟩) hHeld ?_
        simp only [Act.put, List.setIfInBounds_toArray, List.set_cons_zero, List.set_cons_succ]
        refine' wpAnyH_take (i := 22) (oi := ⟨some 88, _, _, _, _, _⟩) (v := .pointer (some ⟨bs, offs + j * 4, none⟩)) rfl (by kernel_rfl) (by kernel_rfl) (by kernel_rfl) (fun _ _ _ h => h) (.inl ⟨by kernel_rfl, fun W hW => by obtain ⟨g13, g14, g16, g17, g6, g8, gq, z0, z1, z2, z3, gx⟩ := hW; go_simp⟩) hHeld ?_
        simp only [Act.put, List.setIfInBounds_toArray, List.set_cons_zero, List.set_cons_succ]
        refine' wpAnyH_take (i := 23) (oi := ⟨some 89, _, _, _, _, _⟩) (v := .pointer (some ⟨bs, offs + j * 4, none⟩)) rfl (by kernel_rfl) (by kernel_rfl) (by kernel_rfl) (fun _ _ _ h => h) (.inl ⟨by kernel_rfl, fun W hW => by obtain ⟨g13, g14, g16, g17, g6, g8, gq, z0, z1, z2, z3, gx⟩ := hW; go_simp⟩) hHeld ?_
        simp only [Act.put, List.setIfInBounds_toArray, List.set_cons_zero, List.set_cons_succ]
        refine' wpAnyH_take (i := 24) (oi := ⟨some 90, _, _, _, _, _⟩) (v := .slice ai xl.length ci) rfl (by kernel_rfl) (by kernel_rfl) (by kernel_rfl) (fun _ _ _ h => h) (.inl ⟨by kernel_rfl, fun W hW => by obtain ⟨g13, g14, g16, g17, g6, g8, gq, z0, z1, z2, z3, gx⟩ := hW; go_simp⟩) hHeld ?_
        simp only [Act.put, List.setIfInBounds_toArray, List.set_cons_zero, List.set_cons_succ]
        refine' wpAnyH_take (i := 25) (oi := ⟨some 91, _, _, _, _, _⟩) (v := .int .i64 (xl.length : Int)) rfl (by kernel_rfl) (by kernel_rfl) (by kernel_rfl) (fun _ _ _ h => h) (.inl ⟨by kernel_rfl, fun W hW => by obtain ⟨g13, g14, g16, g17, g6, g8, gq, z0, z1, z2, z3, gx⟩ := hW; go_simp⟩) hHeld ?_
        simp only [Act.put, List.setIfInBounds_toArray, List.set_cons_zero, List.set_cons_succ]
        refine' wpAnyH_take (i := 26) (oi := ⟨some 92, _, _, _, _, _⟩) (v := .pointer (some ⟨w.heap.size + 1, 8, none⟩)) rfl (by kernel_rfl) (by kernel_rfl) (by kernel_rfl) (fun _ _ _ h => h) (.inl ⟨by kernel_rfl, fun W hW => by obtain ⟨g13, g14, g16, g17, g6, g8, gq, z0, z1, z2, z3, gx⟩ := hW; go_simp⟩) hHeld ?_
        simp only [Act.put, List.setIfInBounds_toArray, List.set_cons_zero, List.set_cons_succ]
        refine' wpAnyH_take (i := 27) (oi := ⟨some 93, _, _, _, _, _⟩) (v := .int .i64 E.s8) rfl (by kernel_rfl) (by kernel_rfl) (by kernel_rfl) (fun _ _ _ h => h) (.inl ⟨by kernel_rfl, fun W hW => by obtain ⟨g13, g14, g16, g17, g6, g8, gq, z0, z1, z2, z3, gx⟩ := hW; go_simp⟩) hHeld ?_
        simp only [Act.put, List.setIfInBounds_toArray, List.set_cons_zero, List.set_cons_succ]
        refine' wpAnyH_take (i := 28) (oi := ⟨some 94, _, _, _, _, _⟩) (v := .bool false) rfl (by kernel_rfl) (by kernel_rfl) (by kernel_rfl) (fun _ _ _ h => h) (.inl ⟨by kernel_rfl, fun W hW => by obtain ⟨g13, g14, g16, g17, g6, g8, gq, z0, z1, z2, z3, gx⟩ := hW; go_simp⟩) hHeld ?_
        simp only [Act.put, List.setIfInBounds_toArray, List.set_cons_zero, List.set_cons_succ]
        refine' wpAnyH_take (i := 29) (oi := ⟨some 95, _, _, _, _, _⟩) (v := .bool false) rfl (by kernel_rfl) (by kernel_rfl) (by kernel_rfl) (fun _ _ _ h => h) (.inl ⟨by kernel_rfl, fun W hW => by obtain ⟨g13, g14, g16, g17, g6, g8, gq, z0, z1, z2, z3, gx⟩ := hW; go_simp⟩) hHeld ?_
        simp only [Act.put, List.setIfInBounds_toArray, List.set_cons_zero, List.set_cons_succ]
        refine' wpAnyH_take (i := 30) (oi := ⟨some 96, _, _, _, _, _⟩) (v := .bool false) rfl (by kernel_rfl) (by kernel_rfl) (by kernel_rfl) (fun _ _ _ h => h) (.inl ⟨by kernel_rfl, fun W hW => by obtain ⟨g13, g14, g16, g17, g6, g8, gq, z0, z1, z2, z3, gx⟩ := hW; go_simp⟩) hHeld ?_
        simp only [Act.put, List.setIfInBounds_toArray, List.set_cons_zero, List.set_cons_succ]
        refine' wpAnyH_take (i := 31) (oi := ⟨some 97, _, _, _, _, _⟩) (v := .pointer (some ⟨w.heap.size, 14, none⟩)) rfl (by kernel_rfl) (by kernel_rfl) (by kernel_rfl) (fun _ _ _ h => h) (.inl ⟨by kernel_rfl, fun W hW => by obtain ⟨g13, g14, g16, g17, g6, g8, gq, z0, z1, z2, z3, gx⟩ := hW; go_simp⟩) hHeld ?_
        simp only [Act.put, List.setIfInBounds_toArray, List.set_cons_zero, List.set_cons_succ]
        refine' wpAnyH_take (i := 32) (oi := ⟨some 98, _, _, _, _, _⟩) (v := .slice (some ⟨bs, offs, none⟩) E.sh.length q.c3) rfl (by kernel_rfl) (by kernel_rfl) (by kernel_rfl) (fun _ _ _ h => h) (.inl ⟨by kernel_rfl, fun W hW => by obtain ⟨g13, g14, g16, g17, g6, g8, gq, z0, z1, z2, z3, gx⟩ := hW; go_simp⟩) hHeld ?_
        simp only [Act.put, List.setIfInBounds_toArray, List.set_cons_zero, List.set_cons_succ]
        refine' wpAnyH_take (i := 33) (oi := ⟨some 99, _, _, _, _, _⟩) (v := .int .i64 (j : Int)) rfl (by kernel_rfl) (by kernel_rfl) (by kernel_rfl) (fun _ _ _ h => h) (.inl ⟨by kernel_rfl, fun W hW => by obtain ⟨g13, g14, g16, g17, g6, g8, gq, z0, z1, z2, z3, gx⟩ := hW; go_simp⟩) hHeld ?_
        simp only [Act.put, List.setIfInBounds_toArray, List.set_cons_zero, List.set_cons_succ]
        refine' wpAnyH_take (i := 34) (oi := ⟨some 100, _, _, _, _, _⟩) (v := .pointer (some ⟨bs, offs + j * 4, none⟩)) rfl (by kernel_rfl) (by kernel_rfl) (by kernel_rfl) (fun _ _ _ h => h) (.inl ⟨by kernel_rfl, fun W hW => by obtain ⟨g13, g14, g16, g17, g6, g8, gq, z0, z1, z2, z3, gx⟩ := hW; go_simp⟩) hHeld ?_
        simp only [Act.put, List.setIfInBounds_toArray, List.set_cons_zero, List.set_cons_succ]
        refine' wpAnyH_take (i := 35) (oi := ⟨some 101, _, _, _, _, _⟩) (v := .pointer (some ⟨bs, offs + j * 4 + 1, none⟩)) rfl (by kernel_rfl) (by kernel_rfl) (by kernel_rfl) (fun _ _ _ h => h) (.inl ⟨by kernel_rfl, fun W hW => by obtain ⟨g13, g14, g16, g17, g6, g8, gq, z0, z1, z2, z3, gx⟩ := hW; go_simp⟩) hHeld ?_
        simp only [Act.put, List.setIfInBounds_toArray, List.set_cons_zero, List.set_cons_succ]
        refine' wpAnyH_take (i := 36) (oi := ⟨some 102, _, _, _, _, _⟩) (v := .int .i64 mr) rfl (by kernel_rfl) (by kernel_rfl) (by kernel_rfl) (fun _ _ _ h => h) (.inl ⟨by kernel_rfl, fun W hW => by obtain ⟨g13, g14, g16, g17, g6, g8, gq, z0, z1, z2, z3, gx⟩ := hW; go_simp⟩) hHeld ?_
        simp only [Act.put, List.setIfInBounds_toArray, List.set_cons_zero, List.set_cons_succ]
        refine' wpAnyH_take (i := 37) (oi := ⟨some 103, _, _, _, _, _⟩) (v := .pointer (some ⟨w.heap.size, 17, none⟩)) rfl (by kernel_rfl) (by kernel_rfl) (by kernel_rfl) (fun _ _ _ h => h) (.inl ⟨by kernel_rfl, fun W hW => by obtain ⟨g13, g14, g16, g17, g6, g8, gq, z0, z1, z2, z3, gx⟩ := hW; go_simp⟩) hHeld ?_
        simp only [Act.put, List.setIfInBounds_toArray, List.set_cons_zero, List.set_cons_succ]
        refine' wpAnyH_take (i := 38) (oi := ⟨some 104, _, _, _, _, _⟩) (v := .slice (some ⟨bt, offt, none⟩) nt q.c5) rfl (by kernel_rfl) (by kernel_rfl) (by kernel_rfl) (fun _ _ _ h => h) (.inl ⟨by kernel_rfl, fun W hW => by obtain ⟨g13, g14, g16, g17, g6, g8, gq, z0, z1, z2, z3, gx⟩ := hW; go_simp⟩) hHeld ?_
        simp only [Act.put, List.setIfInBounds_toArray, List.set_cons_zero, List.set_cons_succ]
        refine' wpAnyH_take (i := 39) (oi := ⟨some 105, _, _, _, _, _⟩) (v := .int .i64 (j : Int)) rfl (by kernel_rfl) (by kernel_rfl) (by kernel_rfl) (fun _ _ _ h => h) (.inl ⟨by kernel_rfl, fun W hW => by obtain ⟨g13, g14, g16, g17, g6, g8, gq, z0, z1, z2, z3, gx⟩ := hW; go_simp⟩) hHeld ?_
        simp only [Act.put, List.setIfInBounds_toArray, List.set_cons_zero, List.set_cons_succ]
        refine' wpAnyH_take (i := 40) (oi := ⟨some 106, _, _, _, _, _⟩) (v := .pointer (some ⟨bt, offt + j, none⟩)) rfl (by kernel_rfl) (by kernel_rfl) (by kernel_rfl) (fun _ _ _ h => h) (.inl ⟨by kernel_rfl, fun W hW => by obtain ⟨g13, g14, g16, g17, g6, g8, gq, z0, z1, z2, z3, gx⟩ := hW; go_simp⟩) hHeld ?_
        simp only [Act.put, List.setIfInBounds_toArray, List.set_cons_zero, List.set_cons_succ]
        refine' wpAnyH_take (i := 41) (oi := ⟨some 107, _, _, _, _, _⟩) (v := .int .i64 x) rfl (by kernel_rfl) (by kernel_rfl) (by kernel_rfl) (fun _ _ _ h => h) (.inl ⟨by kernel_rfl, fun W hW => by obtain ⟨g13, g14, g16, g17, g6, g8, gq, z0, z1, z2, z3, gx⟩ := hW; go_simp⟩) hHeld ?_
        simp only [Act.put, List.setIfInBounds_toArray, List.set_cons_zero, List.set_cons_succ]
        refine' wpAnyH_take (i := 42) (oi := ⟨some 108, _, _, _, _, _⟩) (v := .bool false) rfl (by kernel_rfl) (by kernel_rfl) (by kernel_rfl) (fun _ _ _ h => h) (.inl ⟨by kernel_rfl, fun W hW => by obtain ⟨g13, g14, g16, g17, g6, g8, gq, z0, z1, z2, z3, gx⟩ := hW; go_simp⟩) hHeld ?_
        simp only [Act.put, List.setIfInBounds_toArray, List.set_cons_zero, List.set_cons_succ]
        refine' wpAnyH_take (i := 43) (oi := ⟨some 109, _, _, _, _, _⟩) (v := .bool false) rfl (by kernel_rfl) (by kernel_rfl) (by kernel_rfl) (fun _ _ _ h => h) (.inl ⟨by kernel_rfl, fun W hW => by obtain ⟨g13, g14, g16, g17, g6, g8, gq, z0, z1, z2, z3, gx⟩ := hW; go_simp⟩) hHeld ?_
        simp only [Act.put, List.setIfInBounds_toArray, List.set_cons_zero, List.set_cons_succ]
        refine' wpAnyH_take (i := 44) (oi := ⟨some 110, _, _, _, _, _⟩) (v := .bool false) rfl (by kernel_rfl) (by kernel_rfl) (by kernel_rfl) (fun _ _ _ h => h) (.inl ⟨by kernel_rfl, fun W hW => by obtain ⟨g13, g14, g16, g17, g6, g8, gq, z0, z1, z2, z3, gx⟩ := hW; go_simp⟩) hHeld ?_
        simp only [Act.put, List.setIfInBounds_toArray, List.set_cons_zero, List.set_cons_succ]
        refine' wpAnyH_take (i := 45) (oi := ⟨some 111, _, _, _, _, _⟩) (v := .pointer (some ⟨w.heap.size, 17, none⟩)) rfl (by kernel_rfl) (by kernel_rfl) (by kernel_rfl) (fun _ _ _ h => h) (.inl ⟨by kernel_rfl, fun W hW => by obtain ⟨g13, g14, g16, g17, g6, g8, gq, z0, z1, z2, z3, gx⟩ := hW; go_simp⟩) hHeld ?_
        simp only [Act.put, List.setIfInBounds_toArray, List.set_cons_zero, List.set_cons_succ]
        refine' wpAnyH_take (i := 46) (oi := ⟨some 112, _, _, _, _, _⟩) (v := .slice (some ⟨bt, offt, none⟩) nt q.c5) rfl (by kernel_rfl) (by kernel_rfl) (by kernel_rfl) (fun _ _ _ h => h) (.inl ⟨by kernel_rfl, fun W hW => by obtain ⟨g13, g14, g16, g17, g6, g8, gq, z0, z1, z2, z3, gx⟩ := hW; go_simp⟩) hHeld ?_
        simp only [Act.put, List.setIfInBounds_toArray, List.set_cons_zero, List.set_cons_succ]
        refine' wpAnyH_take (i := 47) (oi := ⟨some 113, _, _, _, _, _⟩) (v := .int .i64 (j : Int)) rfl (by kernel_rfl) (by kernel_rfl) (by kernel_rfl) (fun _ _ _ h => h) (.inl ⟨by kernel_rfl, fun W hW => by obtain ⟨g13, g14, g16, g17, g6, g8, gq, z0, z1, z2, z3, gx⟩ := hW; go_simp⟩) hHeld ?_
        simp only [Act.put, List.setIfInBounds_toArray, List.set_cons_zero, List.set_cons_succ]
        refine' wpAnyH_take (i := 48) (oi := ⟨some 114, _, _, _, _, _⟩) (v := .pointer (some ⟨bt, offt + j, none⟩)) rfl (by kernel_rfl) (by kernel_rfl) (by kernel_rfl) (fun _ _ _ h => h) (.inl ⟨by kernel_rfl, fun W hW => by obtain ⟨g13, g14, g16, g17, g6, g8, gq, z0, z1, z2, z3, gx⟩ := hW; go_simp⟩) hHeld ?_
        simp only [Act.put, List.setIfInBounds_toArray, List.set_cons_zero, List.set_cons_succ]
        refine' wpAnyH_take (i := 49) (oi := ⟨some 115, _, _, _, _, _⟩) (v := .int .i64 x) rfl (by kernel_rfl) (by kernel_rfl) (by kernel_rfl) (fun _ _ _ h => h) (.inl ⟨by kernel_rfl, fun W hW => by obtain ⟨g13, g14, g16, g17, g6, g8, gq, z0, z1, z2, z3, gx⟩ := hW; go_simp⟩) hHeld ?_
        simp only [Act.put, List.setIfInBounds_toArray, List.set_cons_zero, List.set_cons_succ]
        refine' wpAnyH_take (i := 50) (oi := ⟨some 116, _, _, _, _, _⟩) (v := .pointer (some ⟨w.heap.size, 16, none⟩)) rfl (by kernel_rfl) (by kernel_rfl) (by kernel_rfl) (fun _ _ _ h => h) (.inl ⟨by kernel_rfl, fun W hW => by obtain ⟨g13, g14, g16, g17, g6, g8, gq, z0, z1, z2, z3, gx⟩ := hW; go_simp⟩) hHeld ?_
        simp only [Act.put, List.setIfInBounds_toArray, List.set_cons_zero, List.set_cons_succ]
        refine' wpAnyH_take (i := 51) (oi := ⟨some 117, _, _, _, _, _⟩) (v := .int .i64 E.mark) rfl (by kernel_rfl) (by kernel_rfl) (by kernel_rfl) (fun _ _ _ h => h) (.inl ⟨by kernel_rfl, fun W hW => by obtain ⟨g13, g14, g16, g17, g6, g8, gq, z0, z1, z2, z3, gx⟩ := hW; go_simp⟩) hHeld ?_
        simp only [Act.put, List.setIfInBounds_toArray, List.set_cons_zero, List.set_cons_succ]
        refine' wpAnyH_take (i := 52) (oi := ⟨some 118, _, _, _, _, _⟩) (v := .bool true) rfl (by kernel_rfl) (by kernel_rfl) (by kernel_rfl) (fun _ _ _ h => h) (.inl ⟨by kernel_rfl, fun W hW => by obtain ⟨g13, g14, g16, g17, g6, g8, gq, z0, z1, z2, z3, gx⟩ := hW; go_simp⟩) hHeld ?_
        simp only [Act.put, List.setIfInBounds_toArray, List.set_cons_zero, List.set_cons_succ]
        refine' wpAnyH_take (i := 53) (oi := ⟨some 119, _, _, _, _, _⟩) (v := .bool true) rfl (by kernel_rfl) (by kernel_rfl) (by kernel_rfl) (fun _ _ _ h => h) (.inl ⟨by kernel_rfl, fun W hW => by obtain ⟨g13, g14, g16, g17, g6, g8, gq, z0, z1, z2, z3, gx⟩ := hW; go_simp⟩) hHeld ?_
        simp only [Act.put, List.setIfInBounds_toArray, List.set_cons_zero, List.set_cons_succ]
        refine wpAnyH_done (by kernel_rfl) ?_ _
        clear y0 hHeld
        go_wp2
        go_ret
        exact ⟨by rw [ZZ.out]; rfl, B4.out⟩
      | false =>
      have ZZ := Lib.hid (HST.out (by have := of_decide_eq_false h1; have := of_decide_eq_false h3; have := of_decide_eq_false h4; have := of_decide_eq_false h5; rw [decide_eq_true (show (row.length : Int) ≤ E.s6 by omega), decide_eq_true (show (xl.length : Int) ≤ E.s8 by omega), decide_eq_true (show mr ≤ x by omega), decide_eq_true (show x ≤ E.mark by omega)]; rfl))
      clear HST
      go_wp2_with fail
      refine wp_region_held_drew (S := fun W => W.cell? ⟨w.heap.size, 13, none⟩ = some (.slice (some ⟨bq, offq, none⟩) nq q.c2) ∧ W.cell? ⟨w.heap.size, 14, none⟩ = some (.slice (some ⟨bs, offs, none⟩) E.sh.length q.c3) ∧ W.cell? ⟨w.heap.size, 16, none⟩ = some (.int .i64 E.mark) ∧ W.cell? ⟨w.heap.size, 17, none⟩ = some (.slice (some ⟨bt, offt, none⟩) nt q.c5) ∧ W.cell? ⟨w.heap.size + 1, 6, none⟩ = some (.int .i64 E.s6) ∧ W.cell? ⟨w.heap.size + 1, 8, none⟩ = some (.int .i64 E.s8) ∧ W.cell? ⟨bq, offq + j, none⟩ = some (.slice qi row.length di) ∧ W.cell? ⟨bs, offs + j * 4, none⟩ = some (.slice ai xl.length ci) ∧ W.cell? ⟨bs, offs + j * 4 + 1, none⟩ = some (.int .i64 mr) ∧ W.cell? ⟨bs, offs + j * 4 + 2, none⟩ = some (.int .i64 lt) ∧ W.cell? ⟨bs, offs + j * 4 + 3, none⟩ = some (.int .i64 ov) ∧ W.cell? ⟨bt, offt + j, none⟩ = some (.int .i64 x)) (by kernel_rfl) y0 (fun hHeld => ?_)
      refine' wpAnyH_take (i := 0) (oi := ⟨some 66, _, _, _, _, _⟩) (v := .pointer (some ⟨w.heap.size, 13, none⟩)) rfl (by kernel_rfl) (by kernel_rfl) (by kernel_rfl) (fun _ _ _ h => h) (.inl ⟨by kernel_rfl, fun W hW => by obtain ⟨g13, g14, g16, g17, g6, g8, gq, z0, z1, z2, z3, gx⟩ := hW; go_simp⟩) hHeld ?_
      simp only [Act.put, List.setIfInBounds_toArray, List.set_cons_zero, List.set_cons_succ]
      refine' wpAnyH_take (i := 1) (oi := ⟨some 67, _, _, _, _, _⟩) (v := .slice (some ⟨bq, offq, none⟩) nq q.c2) rfl (by kernel_rfl) (by kernel_rfl) (by kernel_rfl) (fun _ _ _ h => h) (.inl ⟨by kernel_rfl, fun W hW => by obtain ⟨g13, g14, g16, g17, g6, g8, gq, z0, z1, z2, z3, gx⟩ := hW; go_simp⟩) hHeld ?_
      simp only [Act.put, List.setIfInBounds_toArray, List.set_cons_zero, List.set_cons_succ]
      refine' wpAnyH_take (i := 2) (oi := ⟨some 68, _, _, _, _, _⟩) (v := .int .i64 (j : Int)) rfl (by kernel_rfl) (by kernel_rfl) (by kernel_rfl) (fun _ _ _ h => h) (.inl ⟨by kernel_rfl, fun W hW => by obtain ⟨g13, g14, g16, g17, g6, g8, gq, z0, z1, z2, z3, gx⟩ := hW; go_simp⟩) hHeld ?_
      simp only [Act.put, List.setIfInBounds_toArray, List.set_cons_zero, List.set_cons_succ]
      refine' wpAnyH_take (i := 3) (oi := ⟨some 69, _, _, _, _, _⟩) (v := .pointer (some ⟨bq, offq + j, none⟩)) rfl (by kernel_rfl) (by kernel_rfl) (by kernel_rfl) (fun _ _ _ h => h) (.inl ⟨by kernel_rfl, fun W hW => by obtain ⟨g13, g14, g16, g17, g6, g8, gq, z0, z1, z2, z3, gx⟩ := hW; go_simp⟩) hHeld ?_
      simp only [Act.put, List.setIfInBounds_toArray, List.set_cons_zero, List.set_cons_succ]
      refine' wpAnyH_take (i := 4) (oi := ⟨some 70, _, _, _, _, _⟩) (v := .slice qi row.length di) rfl (by kernel_rfl) (by kernel_rfl) (by kernel_rfl) (fun _ _ _ h => h) (.inl ⟨by kernel_rfl, fun W hW => by obtain ⟨g13, g14, g16, g17, g6, g8, gq, z0, z1, z2, z3, gx⟩ := hW; go_simp⟩) hHeld ?_
      simp only [Act.put, List.setIfInBounds_toArray, List.set_cons_zero, List.set_cons_succ]
      refine' wpAnyH_take (i := 5) (oi := ⟨some 71, _, _, _, _, _⟩) (v := .int .i64 (row.length : Int)) rfl (by kernel_rfl) (by kernel_rfl) (by kernel_rfl) (fun _ _ _ h => h) (.inl ⟨by kernel_rfl, fun W hW => by obtain ⟨g13, g14, g16, g17, g6, g8, gq, z0, z1, z2, z3, gx⟩ := hW; go_simp⟩) hHeld ?_
      simp only [Act.put, List.setIfInBounds_toArray, List.set_cons_zero, List.set_cons_succ]
      refine' wpAnyH_take (i := 6) (oi := ⟨some 72, _, _, _, _, _⟩) (v := .pointer (some ⟨w.heap.size + 1, 6, none⟩)) rfl (by kernel_rfl) (by kernel_rfl) (by kernel_rfl) (fun _ _ _ h => h) (.inl ⟨by kernel_rfl, fun W hW => by obtain ⟨g13, g14, g16, g17, g6, g8, gq, z0, z1, z2, z3, gx⟩ := hW; go_simp⟩) hHeld ?_
      simp only [Act.put, List.setIfInBounds_toArray, List.set_cons_zero, List.set_cons_succ]
      refine' wpAnyH_take (i := 7) (oi := ⟨some 73, _, _, _, _, _⟩) (v := .int .i64 E.s6) rfl (by kernel_rfl) (by kernel_rfl) (by kernel_rfl) (fun _ _ _ h => h) (.inl ⟨by kernel_rfl, fun W hW => by obtain ⟨g13, g14, g16, g17, g6, g8, gq, z0, z1, z2, z3, gx⟩ := hW; go_simp⟩) hHeld ?_
      simp only [Act.put, List.setIfInBounds_toArray, List.set_cons_zero, List.set_cons_succ]
      refine' wpAnyH_take (i := 8) (oi := ⟨some 74, _, _, _, _, _⟩) (v := .bool false) rfl (by kernel_rfl) (by kernel_rfl) (by kernel_rfl) (fun _ _ _ h => h) (.inl ⟨by kernel_rfl, fun W hW => by obtain ⟨g13, g14, g16, g17, g6, g8, gq, z0, z1, z2, z3, gx⟩ := hW; go_simp⟩) hHeld ?_
      simp only [Act.put, List.setIfInBounds_toArray, List.set_cons_zero, List.set_cons_succ]
      refine' wpAnyH_take (i := 9) (oi := ⟨some 75, _, _, _, _, _⟩) (v := .bool false) rfl (by kernel_rfl) (by kernel_rfl) (by kernel_rfl) (fun _ _ _ h => h) (.inl ⟨by kernel_rfl, fun W hW => by obtain ⟨g13, g14, g16, g17, g6, g8, gq, z0, z1, z2, z3, gx⟩ := hW; go_simp⟩) hHeld ?_
      simp only [Act.put, List.setIfInBounds_toArray, List.set_cons_zero, List.set_cons_succ]
      refine' wpAnyH_take (i := 10) (oi := ⟨some 76, _, _, _, _, _⟩) (v := .pointer (some ⟨w.heap.size, 14, none⟩)) rfl (by kernel_rfl) (by kernel_rfl) (by kernel_rfl) (fun _ _ _ h => h) (.inl ⟨by kernel_rfl, fun W hW => by obtain ⟨g13, g14, g16, g17, g6, g8, gq, z0, z1, z2, z3, gx⟩ := hW; go_simp⟩) hHeld ?_
      simp only [Act.put, List.setIfInBounds_toArray, List.set_cons_zero, List.set_cons_succ]
      refine' wpAnyH_take (i := 11) (oi := ⟨some 77, _, _, _, _, _⟩) (v := .slice (some ⟨bs, offs, none⟩) E.sh.length q.c3) rfl (by kernel_rfl) (by kernel_rfl) (by kernel_rfl) (fun _ _ _ h => h) (.inl ⟨by kernel_rfl, fun W hW => by obtain ⟨g13, g14, g16, g17, g6, g8, gq, z0, z1, z2, z3, gx⟩ := hW; go_simp⟩) hHeld ?_
      simp only [Act.put, List.setIfInBounds_toArray, List.set_cons_zero, List.set_cons_succ]
      refine' wpAnyH_take (i := 12) (oi := ⟨some 78, _, _, _, _, _⟩) (v := .int .i64 (j : Int)) rfl (by kernel_rfl) (by kernel_rfl) (by kernel_rfl) (fun _ _ _ h => h) (.inl ⟨by kernel_rfl, fun W hW => by obtain ⟨g13, g14, g16, g17, g6, g8, gq, z0, z1, z2, z3, gx⟩ := hW; go_simp⟩) hHeld ?_
      simp only [Act.put, List.setIfInBounds_toArray, List.set_cons_zero, List.set_cons_succ]
      refine' wpAnyH_take (i := 13) (oi := ⟨some 79, _, _, _, _, _⟩) (v := .pointer (some ⟨bs, offs + j * 4, none⟩)) rfl (by kernel_rfl) (by kernel_rfl) (by kernel_rfl) (fun _ _ _ h => h) (.inl ⟨by kernel_rfl, fun W hW => by obtain ⟨g13, g14, g16, g17, g6, g8, gq, z0, z1, z2, z3, gx⟩ := hW; go_simp⟩) hHeld ?_
      simp only [Act.put, List.setIfInBounds_toArray, List.set_cons_zero, List.set_cons_succ]
      refine' wpAnyH_take (i := 14) (oi := ⟨some 80, _, _, _, _, _⟩) (v := .agg #[.slice ai xl.length ci, .int .i64 mr, .int .i64 lt, .int .i64 ov]) rfl (by kernel_rfl) (by kernel_rfl) (by kernel_rfl) (fun _ _ _ h => h) (.inl ⟨by kernel_rfl, fun W hW => by obtain ⟨g13, g14, g16, g17, g6, g8, gq, z0, z1, z2, z3, gx⟩ := hW; go_simp⟩) hHeld ?_
      simp only [Act.put, List.setIfInBounds_toArray, List.set_cons_zero, List.set_cons_succ]
      refine wpAnyH_ready (rs := [15]) (by kernel_rfl) (by simp) ?_
      refine AllReadyH.cons (o := ⟨some 81, _, _, _, _, _⟩) rfl (fun KK hK => ?_) AllReadyH.nil
      go_simp
      refine (HC.out _ B4.out).mono ?_
      rintro e w3 ⟨rfl, hb⟩
      clear y0 hHeld
      have K4 := Lib.hid (K4.out.below hb)
      have S4 := Lib.hid (S4.out.below hb)
      have B4 := Lib.hid (B4.out.trans (hb.mono B4.out.size))
      clear hb
      have y0 := FX.out _ B4.out K4.out S4.out
      dsimp only
      refine (Go.Shut.out hK) _ _ y0 (fun hHeld => ?_)
      clear hK KK
      try simp only [Act.put, List.setIfInBounds_toArray, List.set_cons_zero, List.set_cons_succ]
      refine' wpAnyH_take (i := 16) (oi := ⟨some 82, _, _, _, _, _⟩) (v := .bool false) rfl (by kernel_rfl) (by kernel_rfl) (by kernel_rfl) (fun _ _ _ h => h) (.inl ⟨by kernel_rfl, fun W hW => by obtain ⟨g13, g14, g16, g17, g6, g8, gq, z0, z1, z2, z3, gx⟩ := hW; go_simp⟩) hHeld ?_
      simp only [Act.put, List.setIfInBounds_toArray, List.set_cons_zero, List.set_cons_succ]
      refine' wpAnyH_take (i := 17) (oi := ⟨some 83, _, _, _, _, _⟩) (v := .bool false) rfl (by kernel_rfl) (by kernel_rfl) (by kernel_rfl) (fun _ _ _ h => h) (.inl ⟨by kernel_rfl, fun W hW => by obtain ⟨g13, g14, g16, g17, g6, g8, gq, z0, z1, z2, z3, gx⟩ := hW; go_simp⟩) hHeld ?_
      simp only [Act.put, List.setIfInBounds_toArray, List.set_cons_zero, List.set_cons_succ]
      refine' wpAnyH_take (i := 18) (oi := ⟨some 84, _, _, _, _, _⟩) (v := .bool false) rfl (by kernel_rfl) (by kernel_rfl) (by kernel_rfl) (fun _ _ _ h => h) (.inl ⟨by kernel_rfl, fun W hW => by obtain ⟨g13, g14, g16, g17, g6, g8, gq, z0, z1, z2, z3, gx⟩ := hW; go_simp⟩) hHeld ?_
      simp only [Act.put, List.setIfInBounds_toArray, List.set_cons_zero, List.set_cons_succ]
      refine' wpAnyH_take (i := 19) (oi := ⟨some 85, _, _, _, _, _⟩) (v := .pointer (some ⟨w.heap.size, 14, none⟩)) rfl (by kernel_rfl) (by kernel_rfl) (by kernel_rfl) (fun _ _ _ h => h) (.inl ⟨by kernel_rfl, fun W hW => by obtain ⟨g13, g14, g16, g17, g6, g8, gq, z0, z1, z2, z3, gx⟩ := hW; go_simp⟩) hHeld ?_
      simp only [Act.put, List.setIfInBounds_toArray, List.set_cons_zero, List.set_cons_succ]
      refine' wpAnyH_take (i := 20) (oi := ⟨some 86, _, _, _, _, _⟩) (v := .slice (some ⟨bs, offs, none⟩) E.sh.length q.c3) rfl (by kernel_rfl) (by kernel_rfl) (by kernel_rfl) (fun _ _ _ h => h) (.inl ⟨by kernel_rfl, fun W hW => by obtain ⟨g13, g14, g16, g17, g6, g8, gq, z0, z1, z2, z3, gx⟩ := hW; go_simp⟩) hHeld ?_
      simp only [Act.put, List.setIfInBounds_toArray, List.set_cons_zero, List.set_cons_succ]
      refine' wpAnyH_take (i := 21) (oi := ⟨some 87, _, _, _, _, _⟩) (v := .int .i64 (j : Int)) rfl (by kernel_rfl) (by kernel_rfl) (by kernel_rfl) (fun _ _ _ h => h) (.inl ⟨by kernel_rfl, fun W hW => by obtain ⟨g13, g14, g16, g17, g6, g8, gq, z0, z1, z2, z3, gx⟩ := hW; go_simp⟩) hHeld ?_
      simp only [Act.put, List.setIfInBounds_toArray, List.set_cons_zero, List.set_cons_succ]
      refine' wpAnyH_take (i := 22) (oi := ⟨some 88, _, _, _, _, _⟩) (v := .pointer (some ⟨bs, offs + j * 4, none⟩)) rfl (by kernel_rfl) (by kernel_rfl) (by kernel_rfl) (fun _ _ _ h => h) (.inl ⟨by kernel_rfl, fun W hW => by obtain ⟨g13, g14, g16, g17, g6, g8, gq, z0, z1, z2, z3, gx⟩ := hW; go_simp⟩) hHeld ?_
      simp only [Act.put, List.setIfInBounds_toArray, List.set_cons_zero, List.set_cons_succ]
      refine' wpAnyH_take (i := 23) (oi := ⟨some 89, _, _, _, _, _⟩) (v := .pointer (some ⟨bs, offs + j * 4, none⟩)) rfl (by kernel_rfl) (by kernel_rfl) (by kernel_rfl) (fun _ _ _ h => h) (.inl ⟨by kernel_rfl, fun W hW => by obtain ⟨g13, g14, g16, g17, g6, g8, gq, z0, z1, z2, z3, gx⟩ := hW; go_simp⟩) hHeld ?_
      simp only [Act.put, List.setIfInBounds_toArray, List.set_cons_zero, List.set_cons_succ]
      refine' wpAnyH_take (i := 24) (oi := ⟨some 90, _, _, _, _, _⟩) (v := .slice ai xl.length ci) rfl (by kernel_rfl) (by kernel_rfl) (by kernel_rfl) (fun _ _ _ h => h) (.inl ⟨by kernel_rfl, fun W hW => by obtain ⟨g13, g14, g16, g17, g6, g8, gq, z0, z1, z2, z3, gx⟩ := hW; go_simp⟩) hHeld ?_
      simp only [Act.put, List.setIfInBounds_toArray, List.set_cons_zero, List.set_cons_succ]
      refine' wpAnyH_take (i := 25) (oi := ⟨some 91, _, _, _, _, _⟩) (v := .int .i64 (xl.length : Int)) rfl (by kernel_rfl) (by kernel_rfl) (by kernel_rfl) (fun _ _ _ h => h) (.inl ⟨by kernel_rfl, fun W hW => by obtain ⟨g13, g14, g16, g17, g6, g8, gq, z0, z1, z2, z3, gx⟩ := hW; go_simp⟩) hHeld ?_
      simp only [Act.put, List.setIfInBounds_toArray, List.set_cons_zero, List.set_cons_succ]
      refine' wpAnyH_take (i := 26) (oi := ⟨some 92, _, _, _, _, _⟩) (v := .pointer (some ⟨w.heap.size + 1, 8, none⟩)) rfl (by kernel_rfl) (by kernel_rfl) (by kernel_rfl) (fun _ _ _ h => h) (.inl ⟨by kernel_rfl, fun W hW => by obtain ⟨g13, g14, g16, g17, g6, g8, gq, z0, z1, z2, z3, gx⟩ := hW; go_simp⟩) hHeld ?_
      simp only [Act.put, List.setIfInBounds_toArray, List.set_cons_zero, List.set_cons_succ]
      refine' wpAnyH_take (i := 27) (oi := ⟨some 93, _, _, _, _, _⟩) (v := .int .i64 E.s8) rfl (by kernel_rfl) (by kernel_rfl) (by kernel_rfl) (fun _ _ _ h => h) (.inl ⟨by kernel_rfl, fun W hW => by obtain ⟨g13, g14, g16, g17, g6, g8, gq, z0, z1, z2, z3, gx⟩ := hW; go_simp⟩) hHeld ?_
      simp only [Act.put, List.setIfInBounds_toArray, List.set_cons_zero, List.set_cons_succ]
      refine' wpAnyH_take (i := 28) (oi := ⟨some 94, _, _, _, _, _⟩) (v := .bool false) rfl (by kernel_rfl) (by kernel_rfl) (by kernel_rfl) (fun _ _ _ h => h) (.inl ⟨by kernel_rfl, fun W hW => by obtain ⟨g13, g14, g16, g17, g6, g8, gq, z0, z1, z2, z3, gx⟩ := hW; go_simp⟩) hHeld ?_
      simp only [Act.put, List.setIfInBounds_toArray, List.set_cons_zero, List.set_cons_succ]
      refine' wpAnyH_take (i := 29) (oi := ⟨some 95, _, _, _, _, _⟩) (v := .bool false) rfl (by kernel_rfl) (by kernel_rfl) (by kernel_rfl) (fun _ _ _ h => h) (.inl ⟨by kernel_rfl, fun W hW => by obtain ⟨g13, g14, g16, g17, g6, g8, gq, z0, z1, z2, z3, gx⟩ := hW; go_simp⟩) hHeld ?_
      simp only [Act.put, List.setIfInBounds_toArray, List.set_cons_zero, List.set_cons_succ]
      refine' wpAnyH_take (i := 30) (oi := ⟨some 96, _, _, _, _, _⟩) (v := .bool false) rfl (by kernel_rfl) (by kernel_rfl) (by kernel_rfl) (fun _ _ _ h => h) (.inl ⟨by kernel_rfl, fun W hW => by obtain ⟨g13, g14, g16, g17, g6, g8, gq, z0, z1, z2, z3, gx⟩ := hW; go_simp⟩) hHeld ?_
      simp only [Act.put, List.setIfInBounds_toArray, List.set_cons_zero, List.set_cons_succ]
      refine' wpAnyH_take (i := 31) (oi := ⟨some 97, _, _, _, _, _⟩) (v := .pointer (some ⟨w.heap.size, 14, none⟩)) rfl (by kernel_rfl) (by kernel_rfl) (by kernel_rfl) (fun _ _ _ h => h) (.inl ⟨by kernel_rfl, fun W hW => by obtain ⟨g13, g14, g16, g17, g6, g8, gq, z0, z1, z2, z3, gx⟩ := hW; go_simp⟩) hHeld ?_
      simp only [Act.put, List.setIfInBounds_toArray, List.set_cons_zero, List.set_cons_succ]
      refine' wpAnyH_take (i := 32) (oi := ⟨some 98, _, _, _, _, _⟩) (v := .slice (some ⟨bs, offs, none⟩) E.sh.length q.c3) rfl (by kernel_rfl) (by kernel_rfl) (by kernel_rfl) (fun _ _ _ h => h) (.inl ⟨by kernel_rfl, fun W hW => by obtain ⟨g13, g14, g16, g17, g6, g8, gq, z0, z1, z2, z3, gx⟩ := hW; go_simp⟩) hHeld ?_
      simp only [Act.put, List.setIfInBounds_toArray, List.set_cons_zero, List.set_cons_succ]
      refine' wpAnyH_take (i := 33) (oi := ⟨some 99, _, _, _, _, _⟩) (v := .int .i64 (j : Int)) rfl (by kernel_rfl) (by kernel_rfl) (by kernel_rfl) (fun _ _ _ h => h) (.inl ⟨by kernel_rfl, fun W hW => by obtain ⟨g13, g14, g16, g17, g6, g8, gq, z0, z1, z2, z3, gx⟩ := hW; go_simp⟩) hHeld ?_
      simp only [Act.put, List.setIfInBounds_toArray, List.set_cons_zero, List.set_cons_succ]
      refine' wpAnyH_take (i := 34) (oi := ⟨some 100, _, _, _, _, _⟩) (v := .pointer (some ⟨bs, offs + j * 4, none⟩)) rfl (by kernel_rfl) (by kernel_rfl) (by kernel_rfl) (fun _ _ _ h => h) (.inl ⟨by kernel_rfl, fun W hW => by obtain ⟨g13, g14, g16, g17, g6, g8, gq, z0, z1, z2, z3, gx⟩ := hW; go_simp⟩) hHeld ?_
      simp only [Act.put, List.setIfInBounds_toArray, List.set_cons_zero, List.set_cons_succ]
      refine' wpAnyH_take (i := 35) (oi := ⟨some 101, _, _, _, _, _⟩) (v := .pointer (some ⟨bs, offs + j * 4 + 1, none⟩)) rfl (by kernel_rfl) (by kernel_rfl) (by kernel_rfl) (fun _ _ _ h => h) (.inl ⟨by kernel_rfl, fun W hW => by obtain ⟨g13, g14, g16, g17, g6, g8, gq, z0, z1, z2, z3, gx⟩ := hW; go_simp⟩) hHeld ?_
      simp only [Act.put, List.setIfInBounds_toArray, List.set_cons_zero, List.set_cons_succ]
      refine' wpAnyH_take (i := 36) (oi := ⟨some 102, _, _, _, _, _⟩) (v := .int .i64 mr) rfl (by kernel_rfl) (by kernel_rfl) (by kernel_rfl) (fun _ _ _ h => h) (.inl ⟨by kernel_rfl, fun W hW => by obtain ⟨g13, g14, g16, g17, g6, g8, gq, z0, z1, z2, z3, gx⟩ := hW; go_simp⟩) hHeld ?_
      simp only [Act.put, List.setIfInBounds_toArray, List.set_cons_zero, List.set_cons_succ]
      refine' wpAnyH_take (i := 37) (oi := ⟨some 103, _, _, _, _, _⟩) (v := .pointer (some ⟨w.heap.size, 17, none⟩)) rfl (by kernel_rfl) (by kernel_rfl) (by kernel_rfl) (fun _ _ _ h => h) (.inl ⟨by kernel_rfl, fun W hW => by obtain ⟨g13, g14, g16, g17, g6, g8, gq, z0, z1, z2, z3, gx⟩ := hW; go_simp⟩) hHeld ?_
      simp only [Act.put, List.setIfInBounds_toArray, List.set_cons_zero, List.set_cons_succ]
      refine' wpAnyH_take (i := 38) (oi := ⟨some 104, _, _, _, _, _⟩) (v := .slice (some ⟨bt, offt, none⟩) nt q.c5) rfl (by kernel_rfl) (by kernel_rfl) (by kernel_rfl) (fun _ _ _ h => h) (.inl ⟨by kernel_rfl, fun W hW => by obtain ⟨g13, g14, g16, g17, g6, g8, gq, z0, z1, z2, z3, gx⟩ := hW; go_simp⟩) hHeld ?_
      simp only [Act.put, List.setIfInBounds_toArray, List.set_cons_zero, List.set_cons_succ]
      refine' wpAnyH_take (i := 39) (oi := ⟨some 105, _, _, _, _, _⟩) (v := .int .i64 (j : Int)) rfl (by kernel_rfl) (by kernel_rfl) (by kernel_rfl) (fun _ _ _ h => h) (.inl ⟨by kernel_rfl, fun W hW => by obtain ⟨g13, g14, g16, g17, g6, g8, gq, z0, z1, z2, z3, gx⟩ := hW; go_simp⟩) hHeld ?_
      simp only [Act.put, List.setIfInBounds_toArray, List.set_cons_zero, List.set_cons_succ]
      refine' wpAnyH_take (i := 40) (oi := ⟨some 106, _, _, _, _, _⟩) (v := .pointer (some ⟨bt, offt + j, none⟩)) rfl (by kernel_rfl) (by kernel_rfl) (by kernel_rfl) (fun _ _ _ h => h) (.inl ⟨by kernel_rfl, fun W hW => by obtain ⟨g13, g14, g16, g17, g6, g8, gq, z0, z1, z2, z3, gx⟩ := hW; go_simp⟩) hHeld ?_
      simp only [Act.put, List.setIfInBounds_toArray, List.set_cons_zero, List.set_cons_succ]
      refine' wpAnyH_take (i := 41) (oi := ⟨some 107, _, _, _, _, _⟩) (v := .int .i64 x) rfl (by kernel_rfl) (by kernel_rfl) (by kernel_rfl) (fun _ _ _ h => h) (.inl ⟨by kernel_rfl, fun W hW => by obtain ⟨g13, g14, g16, g17, g6, g8, gq, z0, z1, z2, z3, gx⟩ := hW; go_simp⟩) hHeld ?_
      simp only [Act.put, List.setIfInBounds_toArray, List.set_cons_zero, List.set_cons_succ]
      refine' wpAnyH_take (i := 42) (oi := ⟨some 108, _, _, _, _, _⟩) (v := .bool false) rfl (by kernel_rfl) (by kernel_rfl) (by kernel_rfl) (fun _ _ _ h => h) (.inl ⟨by kernel_rfl, fun W hW => by obtain ⟨g13, g14, g16, g17, g6, g8, gq, z0, z1, z2, z3, gx⟩ := hW; go_simp⟩) hHeld ?_
      simp only [Act.put, List.setIfInBounds_toArray, List.set_cons_zero, List.set_cons_succ]
      refine' wpAnyH_take (i := 43) (oi := ⟨some 109, _, _, _, _, _⟩) (v := .bool false) rfl (by kernel_rfl) (by kernel_rfl) (by kernel_rfl) (fun _ _ _ h => h) (.inl ⟨by kernel_rfl, fun W hW => by obtain ⟨g13, g14, g16, g17, g6, g8, gq, z0, z1, z2, z3, gx⟩ := hW; go_simp⟩) hHeld ?_
      simp only [Act.put, List.setIfInBounds_toArray, List.set_cons_zero, List.set_cons_succ]
      refine' wpAnyH_take (i := 44) (oi := ⟨some 110, _, _, _, _, _⟩) (v := .bool false) rfl (by kernel_rfl) (by kernel_rfl) (by kernel_rfl) (fun _ _ _ h => h) (.inl ⟨by kernel_rfl, fun W hW => by obtain ⟨g13, g14, g16, g17, g6, g8, gq, z0, z1, z2, z3, gx⟩ := hW; go_simp⟩) hHeld ?_
      simp only [Act.put, List.setIfInBounds_toArray, List.set_cons_zero, List.set_cons_succ]
      refine' wpAnyH_take (i := 45) (oi := ⟨some 111, _, _, _, _, _⟩) (v := .pointer (some ⟨w.heap.size, 17, none⟩)) rfl (by kernel_rfl) (by kernel_rfl) (by kernel_rfl) (fun _ _ _ h => h) (.inl ⟨by kernel_rfl, fun W hW => by obtain ⟨g13, g14, g16, g17, g6, g8, gq, z0, z1, z2, z3, gx⟩ := hW; go_simp⟩) hHeld ?_
      simp only [Act.put, List.setIfInBounds_toArray, List.set_cons_zero, List.set_cons_succ]
      refine' wpAnyH_take (i := 46) (oi := ⟨some 112, _, _, _, _, _⟩) (v := .slice (some ⟨bt, offt, none⟩) nt q.c5) rfl (by kernel_rfl) (by kernel_rfl) (by kernel_rfl) (fun _ _ _ h => h) (.inl ⟨by kernel_rfl, fun W hW => by obtain ⟨g13, g14, g16, g17, g6, g8, gq, z0, z1, z2, z3, gx⟩ := hW; go_simp⟩) hHeld ?_
      simp only [Act.put, List.setIfInBounds_toArray, List.set_cons_zero, List.set_cons_succ]
      refine' wpAnyH_take (i := 47) (oi := ⟨some 113, _, _, _, _, _⟩) (v := .int .i64 (j : Int)) rfl (by kernel_rfl) (by kernel_rfl) (by kernel_rfl) (fun _ _ _ h => h) (.inl ⟨by kernel_rfl, fun W hW => by obtain ⟨g13, g14, g16, g17, g6, g8, gq, z0, z1, z2, z3, gx⟩ := hW; go_simp⟩) hHeld ?_
      simp only [Act.put, List.setIfInBounds_toArray, List.set_cons_zero, List.set_cons_succ]
      refine' wpAnyH_take (i := 48) (oi := ⟨some 114, _, _, _, _, _⟩) (v := .pointer (some ⟨bt, offt + j, none⟩)) rfl (by kernel_rfl) (by kernel_rfl) (by kernel_rfl) (fun _ _ _ h => h) (.inl ⟨by kernel_rfl, fun W hW => by obtain ⟨g13, g14, g16, g17, g6, g8, gq, z0, z1, z2, z3, gx⟩ := hW; go_simp⟩) hHeld ?_
      simp only [Act.put, List.setIfInBounds_toArray, List.set_cons_zero, List.set_cons_succ]
      refine' wpAnyH_take (i := 49) (oi := ⟨some 115, _, _, _, _, _⟩) (v := .int .i64 x) rfl (by kernel_rfl) (by kernel_rfl) (by kernel_rfl) (fun _ _ _ h => h) (.inl ⟨by kernel_rfl, fun W hW => by obtain ⟨g13, g14, g16, g17, g6, g8, gq, z0, z1, z2, z3, gx⟩ := hW; go_simp⟩) hHeld ?_
      simp only [Act.put, List.setIfInBounds_toArray, List.set_cons_zero, List.set_cons_succ]
      refine' wpAnyH_take (i := 50) (oi := ⟨some 116, _, _, _, _, _⟩) (v := .pointer (some ⟨w.heap.size, 16, none⟩)) rfl (by kernel_rfl) (by kernel_rfl) (by kernel_rfl) (fun _ _ _ h => h) (.inl ⟨by kernel_rfl, fun W hW => by obtain ⟨g13, g14, g16, g17, g6, g8, gq, z0, z1, z2, z3, gx⟩ := hW; go_simp⟩) hHeld ?_
      simp only [Act.put, List.setIfInBounds_toArray, List.set_cons_zero, List.set_cons_succ]
      refine' wpAnyH_take (i := 51) (oi := ⟨some 117, _, _, _, _, _⟩) (v := .int .i64 E.mark) rfl (by kernel_rfl) (by kernel_rfl) (by kernel_rfl) (fun _ _ _ h => h) (.inl ⟨by kernel_rfl, fun W hW => by obtain ⟨g13, g14, g16, g17, g6, g8, gq, z0, z1, z2, z3, gx⟩ := hW; go_simp⟩) hHeld ?_
      simp only [Act.put, List.setIfInBounds_toArray, List.set_cons_zero, List.set_cons_succ]
      refine' wpAnyH_take (i := 52) (oi := ⟨some 118, _, _, _, _, _⟩) (v := .bool false) rfl (by kernel_rfl) (by kernel_rfl) (by kernel_rfl) (fun _ _ _ h => h) (.inl ⟨by kernel_rfl, fun W hW => by obtain ⟨g13, g14, g16, g17, g6, g8, gq, z0, z1, z2, z3, gx⟩ := hW; go_simp⟩) hHeld ?_
      simp only [Act.put, List.setIfInBounds_toArray, List.set_cons_zero, List.set_cons_succ]
      refine' wpAnyH_take (i := 53) (oi := ⟨some 119, _, _, _, _, _⟩) (v := .bool false) rfl (by kernel_rfl) (by kernel_rfl) (by kernel_rfl) (fun _ _ _ h => h) (.inl ⟨by kernel_rfl, fun W hW => by obtain ⟨g13, g14, g16, g17, g6, g8, gq, z0, z1, z2, z3, gx⟩ := hW; go_simp⟩) hHeld ?_
      simp only [Act.put, List.setIfInBounds_toArray, List.set_cons_zero, List.set_cons_succ]
      refine wpAnyH_done (by kernel_rfl) ?_ _
      clear y0 hHeld
      go_wp2
      go_roundw
      case rel => exact ⟨j + 1, by omega, by go_num, ZZ.out, B4.out, K4.out, S4.out⟩
      case measure => simp [intOf]; omega
    · obtain rfl : j = E.sh.length := by omega
      have hnl := NE.out
      go_wp2
      clear t1 hnl hj hlt
      rename World => wa
      go_loopw [5] (fun i wr => ∃ j : Nat, j ≤ E.inq.length ∧ i = .int .i64 j ∧ (∀ m, m < j → mqB false (qel E.inq m) = true) ∧ Below w.heap.size w wr ∧ Blk wr w.heap.size 45 L.toArray ∧ Blk wr (w.heap.size + 1) 37 #[.int .i64 E.s0, .int .i64 E.s1, .int .i64 E.s2, .int .i64 E.s3, .int .i64 E.s4, .int .i64 E.s5, .int .i64 E.s6, .int .i64 E.s7, .int .i64 E.s8]) (fun i _ => E.inq.length - (intOf i).toNat)
      case atStart => exact ⟨0, Nat.zero_le _, rfl, fun m hm => by omega, B3.out, K3.out, S3.out⟩
      case round =>
        obtain ⟨j, hj, rfl, hall, hb, hk, hs⟩ := hrel
        have B4 := Lib.hid hb
        have K4 := Lib.hid hk
        have S4 := Lib.hid hs
        have H4 := Lib.hid hall
        have t1 := hs.cell 1
        simp only [List.getElem?_toArray, List.getElem?_cons_zero, List.getElem?_cons_succ] at t1
        clear hb hk hs hall
        clear t1
        have c12 := (K4.out.cell 12).trans E12.out
        by_cases hlt : j < E.inq.length
        · have hrow := (HR.out.inq).below B4.out
          obtain ⟨b, off, hab, hbh, hcell⟩ := Mqs.six hrow (by omega)
          rw [hab] at c12
          obtain ⟨q0, q1, q2, q3, q4⟩ := hcell j hlt
          have HNJ : Hid (mqB false (qel E.inq j) = false → ans = false) := Lib.hid (fun h => Z6.out (qOk_no hlt h))
          have HST : Hid (mqB false (qel E.inq j) = true → ∀ m, m < j + 1 → mqB false (qel E.inq m) = true) := Lib.hid (fun h m hm => by
            rcases Nat.lt_or_ge m j with h1 | h1
            · exact H4.out m h1
            · obtain rfl : m = j := by omega
              exact h)
          have hlt' : (j : Int) < (E.inq.length : Int) := by omega
          clear hcell hrow hab
          generalize qel E.inq j = S at q0 q1 q2 q3 q4 HNJ HST
          obtain ⟨k, y, t, v, mr⟩ := S
          simp only at q0 q1 q2 q3 q4
          have HF := Lib.hid (fun W => specMsg_x false k y t v mr W)
          generalize mqB false ⟨k, y, t, v, mr⟩ = g at HF HNJ HST
          go_wp2_with fail
          refine (HF.out _).mono ?_
          rintro e w5 ⟨rfl, hb⟩
          have K5 := Lib.hid (K4.out.below hb)
          have S5 := Lib.hid (S4.out.below hb)
          have B5 := Lib.hid (B4.out.trans (hb.mono B4.out.size))
          clear hb q0 q1 q2 q3 q4 c12
          cases g with
          | false =>
            have ZZ := Lib.hid (HNJ.out rfl)
            go_wp2
            go_ret
            exact ⟨by rw [ZZ.out]; rfl, B5.out⟩
          | true =>
            have HST2 := Lib.hid (HST.out rfl)
            clear HST
            go_wp2
            go_roundw
            case rel => exact ⟨j + 1, by omega, by go_num, HST2.out, B5.out, K5.out, S5.out⟩
            case measure => simp [intOf]; omega
        · obtain rfl : j = E.inq.length := by omega
          go_wp2
          clear c12 hj hlt
          rename World => wb
          go_loopw [6] (fun i wr => ∃ j : Nat, j ≤ E.sh.length ∧ i = .int .i64 j ∧ (∀ m, m < j → ∀ n, n < (rel [] E.qs m).length → mqB true (qel (rel [] E.qs m) n) = true) ∧ Below w.heap.size w wr ∧ Blk wr w.heap.size 45 L.toArray ∧ Blk wr (w.heap.size + 1) 37 #[.int .i64 E.s0, .int .i64 E.s1, .int .i64 E.s2, .int .i64 E.s3, .int .i64 E.s4, .int .i64 E.s5, .int .i64 E.s6, .int .i64 E.s7, .int .i64 E.s8]) (fun i _ => E.sh.length - (intOf i).toNat)
          case atStart => exact ⟨0, Nat.zero_le _, rfl, fun m hm => by omega, B4.out, K4.out, S4.out⟩
          case round =>
            obtain ⟨j, hj, rfl, hall, hb, hk, hs⟩ := hrel
            have B5 := Lib.hid hb
            have K5 := Lib.hid hk
            have S5 := Lib.hid hs
            have H5 := Lib.hid hall
            have t1 := hs.cell 1
            simp only [List.getElem?_toArray, List.getElem?_cons_zero, List.getElem?_cons_succ] at t1
            clear hb hk hs hall
            by_cases hlt : j < E.sh.length
            · obtain ⟨y1, y2, y3⟩ := NQ.out j hlt
              obtain ⟨bq, offq, hqa, hbq, hcq⟩ := HR.out.qs.cells (by omega)
              obtain ⟨qi, di, g1, _, qrd⟩ := hcq j y1
              have l1 : (j : Int) < (E.qs.length : Int) := by omega
              have E13b := E13.out
              rw [hqa] at E13b
              have E13c := Lib.hid E13b
              have HMN := Lib.hid (Z4m.out j hlt)
              have HST : Hid ((∀ n, n < (rel [] E.qs j).length → mqB true (qel (rel [] E.qs j) n) = true) → ∀ m, m < j + 1 → ∀ n, n < (rel [] E.qs m).length → mqB true (qel (rel [] E.qs m) n) = true) := Lib.hid (fun h m hm => by
                rcases Nat.lt_or_ge m j with h1 | h1
                · exact H5.out m h1
                · obtain rfl : m = j := by omega
                  exact h)
              rw [Nat.mul_one] at g1
              generalize rel [] E.qs j = row at g1 qrd HMN HST
              have g1 : w.cell? ⟨bq, offq + j, none⟩ = some (.slice qi row.length di) := g1
              have qrd : Mqs w w.heap.size qi di row := qrd
              have QR := Lib.hid qrd
              have z1 := qrd.cap
              have z2 := qrd.big
              have G1 : Hid (∀ W : World, Below w.heap.size w W → W.cell? ⟨bq, offq + j, none⟩ = some (.slice qi row.length di)) := Lib.hid (fun W hb => (hb.cell (p := ⟨bq, offq + j, none⟩) hbq).trans g1)
              clear hcq qrd g1 E13b hqa y2
              go_wp2
              clear t1
              rename World => wc
              go_loopw [7] (fun i wr => ∃ j : Nat, j ≤ row.length ∧ i = .int .i64 j ∧ (∀ m, m < j → mqB true (qel row m) = true) ∧ Below w.heap.size w wr ∧ Blk wr w.heap.size 45 L.toArray ∧ Blk wr (w.heap.size + 1) 37 #[.int .i64 E.s0, .int .i64 E.s1, .int .i64 E.s2, .int .i64 E.s3, .int .i64 E.s4, .int .i64 E.s5, .int .i64 E.s6, .int .i64 E.s7, .int .i64 E.s8]) (fun i _ => row.length - (intOf i).toNat)
              case atStart => exact ⟨0, Nat.zero_le _, rfl, fun m hm => by omega, B5.out, K5.out, S5.out⟩
              case round =>
                obtain ⟨i, hi, rfl, hall, hb, hk, hs⟩ := hrel
                have B6 := Lib.hid hb
                have K6 := Lib.hid hk
                have S6 := Lib.hid hs
                have H6 := Lib.hid hall
                clear hb hk hs hall
                have c13 := (K6.out.cell 13).trans E13c.out
                have g1 := G1.out _ B6.out
                by_cases hli : i < row.length
                · have hrow := QR.out.below B6.out
                  obtain ⟨b, off, hab, hbh, hcell⟩ := Mqs.six hrow (by omega)
                  rw [hab] at g1
                  obtain ⟨q0, q1, q2, q3, q4⟩ := hcell i hli
                  have HNJ := Lib.hid (HMN.out i hli)
                  have HSI : Hid (mqB true (qel row i) = true → ∀ m, m < i + 1 → mqB true (qel row m) = true) := Lib.hid (fun h m hm => by
                    rcases Nat.lt_or_ge m i with h1 | h1
                    · exact H6.out m h1
                    · obtain rfl : m = i := by omega
                      exact h)
                  have hli' : (i : Int) < (row.length : Int) := by omega
                  clear hcell hrow hab
                  generalize qel row i = S at q0 q1 q2 q3 q4 HNJ HSI
                  obtain ⟨k, y, t, v, mr⟩ := S
                  simp only at q0 q1 q2 q3 q4
                  have HF := Lib.hid (fun W => specMsg_x true k y t v mr W)
                  generalize mqB true ⟨k, y, t, v, mr⟩ = g at HF HNJ HSI
                  go_wp2_with fail
                  refine (HF.out _).mono ?_
                  rintro e w7 ⟨rfl, hb⟩
                  have K7 := Lib.hid (K6.out.below hb)
                  have S7 := Lib.hid (S6.out.below hb)
                  have B7 := Lib.hid (B6.out.trans (hb.mono B6.out.size))
                  clear hb q0 q1 q2 q3 q4 c13 g1
                  cases g with
                  | false =>
                    have ZZ := Lib.hid (HNJ.out rfl)
                    go_wp2
                    go_ret
                    exact ⟨by rw [ZZ.out]; rfl, B7.out⟩
                  | true =>
                    have HST2 := Lib.hid (HSI.out rfl)
                    clear HSI
                    go_wp2
                    go_roundw
                    case rel => exact ⟨i + 1, by omega, by go_num, HST2.out, B7.out, K7.out, S7.out⟩
                    case measure => simp [intOf]; omega
                · obtain rfl : i = row.length := by omega
                  have HST2 := Lib.hid (HST.out H6.out)
                  clear HST
                  go_wp2
                  go_roundw
                  case rel => exact ⟨j + 1, by omega, by go_num, HST2.out, B6.out, K6.out, S6.out⟩
                  case measure => simp [intOf]; omega
            · obtain rfl : j = E.sh.length := by omega
              have hnl := NE.out
              go_wp2
              clear t1 hnl hj hlt
              rename World => wd
              go_loopw [8] (fun i wr => ∃ j : Nat, j ≤ E.cs.length ∧ i = .int .i64 j ∧ (∀ m, m < j → conOk (rel cnD E.cs m) = true) ∧ Below w.heap.size w wr ∧ Blk wr w.heap.size 45 L.toArray ∧ Blk wr (w.heap.size + 1) 37 #[.int .i64 E.s0, .int .i64 E.s1, .int .i64 E.s2, .int .i64 E.s3, .int .i64 E.s4, .int .i64 E.s5, .int .i64 E.s6, .int .i64 E.s7, .int .i64 E.s8]) (fun i _ => E.cs.length - (intOf i).toNat)
              case atStart => exact ⟨0, Nat.zero_le _, rfl, fun m hm => by omega, B5.out, K5.out, S5.out⟩
              case round =>
                obtain ⟨j, hj, rfl, hall, hb, hk, hs⟩ := hrel
                have B8 := Lib.hid hb
                have K8 := Lib.hid hk
                have S8 := Lib.hid hs
                have H8 := Lib.hid hall
                have t1 := hs.cell 1
                simp only [List.getElem?_toArray, List.getElem?_cons_zero, List.getElem?_cons_succ] at t1
                clear hb hk hs hall
                clear t1
                have c11 := (K8.out.cell 11).trans E11.out
                by_cases hlt : j < E.cs.length
                · have hrow := (HR.out.cs).below B8.out
                  obtain ⟨b, off, hab, hbh, hcell⟩ := hrow.cells (by omega)
                  rw [hab] at c11
                  have E11b := E11.out
                  rw [hab] at E11b
                  have E11c := Lib.hid E11b
                  obtain ⟨ai, ci, h0, hq, hrd⟩ := hcell j hlt
                  have HNJ := Lib.hid (Z5.out j hlt)
                  have HST : Hid (conOk (rel cnD E.cs j) = true → ∀ m, m < j + 1 → conOk (rel cnD E.cs m) = true) := Lib.hid (fun h m hm => by
                    rcases Nat.lt_or_ge m j with h1 | h1
                    · exact H8.out m h1
                    · obtain rfl : m = j := by omega
                      exact h)
                  generalize rel cnD E.cs j = x at h0 hq hrd HNJ HST
                  obtain ⟨xl, bad, mx, mr, sn, idl, opn⟩ := x
                  have q0 : wr.cell? ⟨b, off + j * 7, none⟩ = some (.slice ai xl.length ci) := h0
                  have q1 : wr.cell? ⟨b, off + j * 7 + 1, none⟩ = some (.bool bad) := hq 0 (by omega)
                  have q2 : wr.cell? ⟨b, off + j * 7 + 2, none⟩ = some (.int .i64 mx) := hq 1 (by omega)
                  have q3 : wr.cell? ⟨b, off + j * 7 + 3, none⟩ = some (.int .i64 mr) := hq 2 (by omega)
                  have q4 : wr.cell? ⟨b, off + j * 7 + 4, none⟩ = some (.int .i64 sn) := hq 3 (by omega)
                  have q5 : wr.cell? ⟨b, off + j * 7 + 5, none⟩ = some (.bool idl) := hq 4 (by omega)
                  have q6 : wr.cell? ⟨b, off + j * 7 + 6, none⟩ = some (.bool opn) := hq 5 (by omega)
                  have hm1 := Recs_cap_Conn hrd
                  have QQ : Hid (∀ W : World, Below wr.heap.size wr W → W.cell? ⟨b, off + j * 7, none⟩ = some (.slice ai xl.length ci) ∧ W.cell? ⟨b, off + j * 7 + 1, none⟩ = some (.bool bad)) := Lib.hid (fun W hb => by
                    have hbl : b < wr.heap.size := Nat.lt_of_lt_of_le hbh B8.out.size
                    exact ⟨(hb.cell (p := ⟨b, off + j * 7, none⟩) hbl).trans q0, (hb.cell (p := ⟨b, off + j * 7 + 1, none⟩) hbl).trans q1⟩)
                  clear hcell h0 hq hrd hrow hab E11b
                  have HA1 := Lib.hid (fun W => specSrcOk_any ⟨mx, mr, sn, idl, opn⟩ W)
                  have HA2 := Lib.hid (fun W => specDecOk_any ai xl.length ci bad W hm1)
                  have hce : conOk ⟨xl, bad, mx, mr, sn, idl, opn⟩ = (sOk ⟨mx, mr, sn, idl, opn⟩ && dOk xl.length bad) := rfl
                  rw [hce] at HNJ HST
                  clear hce
                  have hlt' : (j : Int) < (E.cs.length : Int) := by omega
                  generalize sOk ⟨mx, mr, sn, idl, opn⟩ = g at HA1 HNJ HST
                  generalize dOk xl.length bad = d at HA2 HNJ HST
                  go_wp2_with fail
                  refine (HA1.out _).mono ?_
                  rintro e w9 ⟨rfl, hb⟩
                  have K9 := Lib.hid (K8.out.below hb)
                  have S9 := Lib.hid (S8.out.below hb)
                  have B9 := Lib.hid (B8.out.trans (hb.mono B8.out.size))
                  obtain ⟨r0, r1⟩ := QQ.out _ hb
                  have c11' := (K9.out.cell 11).trans E11c.out
                  clear hb q0 q1 q2 q3 q4 q5 q6 c11
                  cases g with
                  | false =>
                    have ZZ := Lib.hid (HNJ.out rfl)
                    go_wp2
                    go_ret
                    exact ⟨by rw [ZZ.out]; rfl, B9.out⟩
                  | true =>
                    go_wp2_with fail
                    clear r0 r1 c11'
                    refine (HA2.out _).mono ?_
                    rintro e wx ⟨rfl, hb⟩
                    have KX := Lib.hid (K9.out.below hb)
                    have SX := Lib.hid (S9.out.below hb)
                    have BX := Lib.hid (B9.out.trans (hb.mono B9.out.size))
                    clear hb
                    cases d with
                    | false =>
                      have ZZ := Lib.hid (HNJ.out rfl)
                      go_wp2
                      go_ret
                      exact ⟨by rw [ZZ.out]; rfl, BX.out⟩
                    | true =>
                      have HST2 := Lib.hid (HST.out rfl)
                      clear HST
                      go_wp2
                      go_roundw
                      case rel => exact ⟨j + 1, by omega, by go_num, HST2.out, BX.out, KX.out, SX.out⟩
                      case measure => simp [intOf]; omega
                · obtain rfl : j = E.cs.length := by omega
                  have ZZ := Lib.hid (ZY.out (by first | rfl | trivial) (by first | rfl | trivial) PB.out (fun j hj => pre_yes (H3.out j hj) (H5.out j hj)) H8.out (qOk_yes N4.out H4.out) N5.out)
                  go_wp2
                  go_ret
                  exact ⟨by rw [ZZ.out]; rfl, B8.out⟩
end Go.Proofs.YtnfhlfbkdhpacaaGreatDoor
