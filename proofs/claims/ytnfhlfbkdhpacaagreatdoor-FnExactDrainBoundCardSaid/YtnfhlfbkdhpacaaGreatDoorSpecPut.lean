/- Contract of spec.PutFrame: a frame as bytes (putL). -/
import Derived.Test.YtnfhlfbkdhpacaaGreatDoorJoint1
namespace Go.Proofs.YtnfhlfbkdhpacaaGreatDoor
open Go.RowKit

set_option maxHeartbeats 2000000 in
theorem specPut_event (y t v : Int) (hf : fOk 1 y t v = true) (hb : 0 ≤ y ∧ y ≤ 65535 ∧ 0 ≤ t ∧ t ≤ 1000000 ∧ -1000000 ≤ v ∧ v ≤ 1000000) (w : World) :
    Calls Tryz.prog 197 #[(.agg #[.int .i64 1, .int .i64 y, .int .i64 t, .int .i64 v])] w (FreshNums 5 .u8 (putL 1 y t v) w) := by
  have HE := Lib.hid (putL_yes hf)
  have HBY := Lib.hid (bodyL_event y t v)
  have HF := Lib.hid (specFrameOk_any 1 y t v)
  rw [hf] at HF
  clear hf
  have k0 := Blk.new w 97 #[.int .i64 1, .int .i64 y, .int .i64 t, .int .i64 v]
  have b0 := Lib.hid ((Below.refl w.heap.size w).alloc (Nat.le_refl _) (.cells #[.int .i64 1, .int .i64 y, .int .i64 t, .int .i64 v] 97))
  have K0 := Lib.hid k0
  clear k0
  go_enter Tryz.func197, Tryz.ntmps197
  go_wp2_with fail
  refine (HF.out _).mono ?_
  rintro e w0 ⟨rfl, hb0⟩
  have k1 := K0.out.below hb0
  have B1 := Lib.hid ((b0.out.trans (hb0.mono (by simp))).alloc (Nat.le_trans (by simp) hb0.size) (.cells #[.int .u8 1] 5))
  have ka := k1.alloc (.cells #[.int .u8 1] 5)
  have q1 := k1.cell
  have qa := ka.cell
  have K1 := Lib.hid ka
  have oa := own_one w0 5 .u8 1 w0.heap.size w0.heap.size rfl (Nat.le_refl _)
  have O1 := Lib.hid oa
  clear hb0 k1 ka oa
  go_wp2_with fail
  refine (specWide_any y 2 hb.1 (by omega) (by omega) _).mono ?_
  rintro e w1 ⟨a1, c1, rfl, ho1, hb1⟩
  have k2 := K1.out.below hb1
  have B2 := Lib.hid (below_next B1.out hb1)
  have P1 := Lib.hid (Nums.of_own (owns_below O1.out hb1)).2
  have Q1 := Lib.hid (Nums.of_own ho1).2
  have e1 : (wide 2 (y)).length = 2 := wide_len _ _
  clear hb1 ho1 q1 qa
  go_wp2_with fail
  refine (specJoin_any _ _ _ _ _ _ [1] (wide 2 (y)) _ _ _ P1.out Q1.out ?x1 ?y1 (Nat.le_refl _) (Nat.le_refl _) ?z1 ?u1).mono ?_
  case x1 => rfl
  case y1 => omega
  case z1 => simp
  case u1 => omega
  rintro e w2 ⟨a2, c2, rfl, ho2, hb2⟩
  have j2 := k2.below hb2
  have q2 := j2.cell
  have K2 := Lib.hid j2
  have C2 := Lib.hid (below_next B2.out hb2)
  have hl1 : ([1] ++ wide 2 (y)).length = 3 := by simp [wide_len]
  generalize hL1 : [1] ++ wide 2 (y) = L1 at ho2 hl1 ⊢
  have HL1 := Lib.hid hL1
  have O2 := Lib.hid ho2
  clear hL1 hb2 ho2 k2 j2 e1
  go_wp2_with fail
  refine (specWide_any t 3 hb.2.2.1 (by omega) (by omega) _).mono ?_
  rintro e w3 ⟨a3, c3, rfl, ho3, hb3⟩
  have k4 := K2.out.below hb3
  have B4 := Lib.hid (below_next C2.out hb3)
  have P2 := Lib.hid (Nums.of_own (owns_below O2.out hb3)).2
  have Q2 := Lib.hid (Nums.of_own ho3).2
  have e3 : (wide 3 (t)).length = 3 := wide_len _ _
  clear hb3 ho3 q2
  go_wp2_with fail
  refine (specJoin_any _ _ _ _ _ _ L1 (wide 3 (t)) _ _ _ P2.out Q2.out ?x2 ?y2 (Nat.le_refl _) (Nat.le_refl _) ?z2 ?u2).mono ?_
  case x2 => omega
  case y2 => omega
  case z2 => omega
  case u2 => omega
  rintro e w4 ⟨a4, c4, rfl, ho4, hb4⟩
  have j4 := k4.below hb4
  have q4 := j4.cell
  have K4 := Lib.hid j4
  have C4 := Lib.hid (below_next B4.out hb4)
  have hl2 : (L1 ++ wide 3 (t)).length = 6 := by simp [wide_len]; omega
  generalize hL2 : L1 ++ wide 3 (t) = L2 at ho4 hl2 ⊢
  have HL2 := Lib.hid hL2
  have O4 := Lib.hid ho4
  clear hL2 hb4 ho4 k4 j4 e3
  go_wp2_with fail
  refine (specWide_any (v + 1000000) 3 (by omega) (by omega) (by omega) _).mono ?_
  rintro e w5 ⟨a5, c5, rfl, ho5, hb5⟩
  have k6 := K4.out.below hb5
  have B6 := Lib.hid (below_next C4.out hb5)
  have P3 := Lib.hid (Nums.of_own (owns_below O4.out hb5)).2
  have Q3 := Lib.hid (Nums.of_own ho5).2
  have e5 : (wide 3 ((v + 1000000))).length = 3 := wide_len _ _
  clear hb5 ho5 q4
  go_wp2_with fail
  refine (specJoin_any _ _ _ _ _ _ L2 (wide 3 ((v + 1000000))) _ _ _ P3.out Q3.out ?x3 ?y3 (Nat.le_refl _) (Nat.le_refl _) ?z3 ?u3).mono ?_
  case x3 => omega
  case y3 => omega
  case z3 => omega
  case u3 => omega
  rintro e w6 ⟨a6, c6, rfl, ho6, hb6⟩
  have j6 := k6.below hb6
  have q6 := j6.cell
  have K6 := Lib.hid j6
  have C6 := Lib.hid (below_next B6.out hb6)
  have hl3 : (L2 ++ wide 3 ((v + 1000000))).length = 9 := by simp [wide_len]; omega
  generalize hL3 : L2 ++ wide 3 ((v + 1000000)) = L3 at ho6 hl3 ⊢
  have HL3 := Lib.hid hL3
  have O6 := Lib.hid ho6
  clear hL3 hb6 ho6 k6 j6 e5
  have HB0 : bodyL 1 y t v = L3 := by rw [HBY.out, HL1.out, HL2.out, HL3.out]
  have HB := Lib.hid HB0
  clear HB0
  rw [HB.out] at HE
  have hcr := crc_bd (bodyL_isB 1 y t v)
  rw [HB.out] at hcr
  have HIB := Lib.hid (bodyL_isB 1 y t v)
  rw [HB.out] at HIB
  have on := own_one w6 5 .u8 9 w6.heap.size w6.heap.size rfl (Nat.le_refl _)
  have ON := Lib.hid (Nums.of_own on).2
  have OB := Lib.hid (Nums.of_own (O6.out.alloc (.cells #[.int .u8 9] 5))).2
  have BN := Lib.hid (C6.out.alloc C6.out.size (.cells #[.int .u8 9] 5))
  clear on
  go_wp2_with fail
  refine (specJoin_any _ _ _ _ _ _ [9] L3 _ _ _ ON.out OB.out rfl ?hx (Nat.le_refl _) (Nat.le_refl _) (by simp) ?hy).mono ?_
  case hx => omega
  case hy => omega
  rintro e x1 ⟨f1, d1, rfl, hp1, hc1⟩
  have D1 := Lib.hid (below_next BN.out hc1)
  have R1 := Lib.hid hp1
  have OB1 := Lib.hid (OB.out.below hc1)
  clear hp1 hc1
  go_wp2_with fail
  refine (specCheck_any _ _ _ L3 _ _ OB1.out ?hz HIB.out).mono ?_
  case hz => omega
  rintro e w' ⟨rfl, rfl⟩
  go_wp2_with fail
  refine (specWide_any (crc L3) 4 hcr.1 hcr.2 (by omega) _).mono ?_
  rintro e x2 ⟨f2, d2, rfl, hp2, hc2⟩
  have D2 := Lib.hid (below_next D1.out hc2)
  have R2 := Lib.hid (Nums.of_own hp2).2
  have R1b := Lib.hid (Nums.of_own (owns_below R1.out hc2)).2
  clear hp2 hc2
  go_wp2_with fail
  refine (specJoin_any _ _ _ _ _ _ ([9] ++ L3) (wide 4 (crc L3)) _ _ _ R1b.out R2.out ?ha ?hb (Nat.le_refl _) (Nat.le_refl _) ?hc ?hd).mono ?_
  case ha => first | (simp; done) | (simp; omega)
  case hb => simp
  case hc => simp; omega
  case hd => simp [wide_len]
  rintro e x3 ⟨f3, d3, rfl, hp3, hc3⟩
  have HP : Hid (FreshNums 5 .u8 (putL 1 y t v) w (.returned (.slice f3 (([9] ++ L3) ++ wide 4 (crc L3)).length d3)) x3) := by
    unfold FreshNums
    rw [HE.out]
    rw [show ((L3).length : Int) = 9 from by omega]
    exact ⟨f3, d3, rfl, owns_less hp3 D2.out.size, below_next D2.out hc3⟩
  clear hp3 hc3
  go_wp2
  go_ret
  exact fresh_as HP.out (by first | (simp; done) | (simp; omega) | (simp [wide_len]; omega))
set_option maxHeartbeats 2000000 in
theorem specPut_mark (y t v : Int) (hf : fOk 2 y t v = true) (hb : 0 ≤ t ∧ t ≤ 1000000) (w : World) :
    Calls Tryz.prog 197 #[(.agg #[.int .i64 2, .int .i64 y, .int .i64 t, .int .i64 v])] w (FreshNums 5 .u8 (putL 2 y t v) w) := by
  have HE := Lib.hid (putL_yes hf)
  have HBY := Lib.hid (bodyL_mark y t v)
  have HF := Lib.hid (specFrameOk_any 2 y t v)
  rw [hf] at HF
  clear hf
  have k0 := Blk.new w 97 #[.int .i64 2, .int .i64 y, .int .i64 t, .int .i64 v]
  have b0 := Lib.hid ((Below.refl w.heap.size w).alloc (Nat.le_refl _) (.cells #[.int .i64 2, .int .i64 y, .int .i64 t, .int .i64 v] 97))
  have K0 := Lib.hid k0
  clear k0
  go_enter Tryz.func197, Tryz.ntmps197
  go_wp2_with fail
  refine (HF.out _).mono ?_
  rintro e w0 ⟨rfl, hb0⟩
  have k1 := K0.out.below hb0
  have B1 := Lib.hid ((b0.out.trans (hb0.mono (by simp))).alloc (Nat.le_trans (by simp) hb0.size) (.cells #[.int .u8 2] 5))
  have ka := k1.alloc (.cells #[.int .u8 2] 5)
  have q1 := k1.cell
  have qa := ka.cell
  have K1 := Lib.hid ka
  have oa := own_one w0 5 .u8 2 w0.heap.size w0.heap.size rfl (Nat.le_refl _)
  have O1 := Lib.hid oa
  clear hb0 k1 ka oa
  go_wp2_with fail
  refine (specWide_any t 3 hb.1 (by omega) (by omega) _).mono ?_
  rintro e w1 ⟨a1, c1, rfl, ho1, hb1⟩
  have k2 := K1.out.below hb1
  have B2 := Lib.hid (below_next B1.out hb1)
  have P1 := Lib.hid (Nums.of_own (owns_below O1.out hb1)).2
  have Q1 := Lib.hid (Nums.of_own ho1).2
  have e1 : (wide 3 (t)).length = 3 := wide_len _ _
  clear hb1 ho1 q1 qa
  go_wp2_with fail
  refine (specJoin_any _ _ _ _ _ _ [2] (wide 3 (t)) _ _ _ P1.out Q1.out ?x1 ?y1 (Nat.le_refl _) (Nat.le_refl _) ?z1 ?u1).mono ?_
  case x1 => rfl
  case y1 => omega
  case z1 => simp
  case u1 => omega
  rintro e w2 ⟨a2, c2, rfl, ho2, hb2⟩
  have j2 := k2.below hb2
  have q2 := j2.cell
  have K2 := Lib.hid j2
  have C2 := Lib.hid (below_next B2.out hb2)
  have hl1 : ([2] ++ wide 3 (t)).length = 4 := by simp [wide_len]
  generalize hL1 : [2] ++ wide 3 (t) = L1 at ho2 hl1 ⊢
  have HL1 := Lib.hid hL1
  have O2 := Lib.hid ho2
  clear hL1 hb2 ho2 k2 j2 e1
  have HB0 : bodyL 2 y t v = L1 := by rw [HBY.out, HL1.out]
  have HB := Lib.hid HB0
  clear HB0
  rw [HB.out] at HE
  have hcr := crc_bd (bodyL_isB 2 y t v)
  rw [HB.out] at hcr
  have HIB := Lib.hid (bodyL_isB 2 y t v)
  rw [HB.out] at HIB
  have on := own_one w2 5 .u8 4 w2.heap.size w2.heap.size rfl (Nat.le_refl _)
  have ON := Lib.hid (Nums.of_own on).2
  have OB := Lib.hid (Nums.of_own (O2.out.alloc (.cells #[.int .u8 4] 5))).2
  have BN := Lib.hid (C2.out.alloc C2.out.size (.cells #[.int .u8 4] 5))
  clear on
  go_wp2_with fail
  refine (specJoin_any _ _ _ _ _ _ [4] L1 _ _ _ ON.out OB.out rfl ?hx (Nat.le_refl _) (Nat.le_refl _) (by simp) ?hy).mono ?_
  case hx => omega
  case hy => omega
  rintro e x1 ⟨f1, d1, rfl, hp1, hc1⟩
  have D1 := Lib.hid (below_next BN.out hc1)
  have R1 := Lib.hid hp1
  have OB1 := Lib.hid (OB.out.below hc1)
  clear hp1 hc1
  go_wp2_with fail
  refine (specCheck_any _ _ _ L1 _ _ OB1.out ?hz HIB.out).mono ?_
  case hz => omega
  rintro e w' ⟨rfl, rfl⟩
  go_wp2_with fail
  refine (specWide_any (crc L1) 4 hcr.1 hcr.2 (by omega) _).mono ?_
  rintro e x2 ⟨f2, d2, rfl, hp2, hc2⟩
  have D2 := Lib.hid (below_next D1.out hc2)
  have R2 := Lib.hid (Nums.of_own hp2).2
  have R1b := Lib.hid (Nums.of_own (owns_below R1.out hc2)).2
  clear hp2 hc2
  go_wp2_with fail
  refine (specJoin_any _ _ _ _ _ _ ([4] ++ L1) (wide 4 (crc L1)) _ _ _ R1b.out R2.out ?ha ?hb (Nat.le_refl _) (Nat.le_refl _) ?hc ?hd).mono ?_
  case ha => first | (simp; done) | (simp; omega)
  case hb => simp
  case hc => simp; omega
  case hd => simp [wide_len]
  rintro e x3 ⟨f3, d3, rfl, hp3, hc3⟩
  have HP : Hid (FreshNums 5 .u8 (putL 2 y t v) w (.returned (.slice f3 (([4] ++ L1) ++ wide 4 (crc L1)).length d3)) x3) := by
    unfold FreshNums
    rw [HE.out]
    rw [show ((L1).length : Int) = 4 from by omega]
    exact ⟨f3, d3, rfl, owns_less hp3 D2.out.size, below_next D2.out hc3⟩
  clear hp3 hc3
  go_wp2
  go_ret
  exact fresh_as HP.out (by first | (simp; done) | (simp; omega) | (simp [wide_len]; omega))
set_option maxHeartbeats 2000000 in
theorem specPut_bye (y t v : Int) (hf : fOk 3 y t v = true) (w : World) :
    Calls Tryz.prog 197 #[(.agg #[.int .i64 3, .int .i64 y, .int .i64 t, .int .i64 v])] w (FreshNums 5 .u8 (putL 3 y t v) w) := by
  have HE := Lib.hid (putL_yes hf)
  have HBY := Lib.hid (bodyL_bye y t v)
  have HF := Lib.hid (specFrameOk_any 3 y t v)
  rw [hf] at HF
  clear hf
  have k0 := Blk.new w 97 #[.int .i64 3, .int .i64 y, .int .i64 t, .int .i64 v]
  have b0 := Lib.hid ((Below.refl w.heap.size w).alloc (Nat.le_refl _) (.cells #[.int .i64 3, .int .i64 y, .int .i64 t, .int .i64 v] 97))
  have K0 := Lib.hid k0
  clear k0
  go_enter Tryz.func197, Tryz.ntmps197
  go_wp2_with fail
  refine (HF.out _).mono ?_
  rintro e w0 ⟨rfl, hb0⟩
  have k1 := K0.out.below hb0
  have B1 := Lib.hid ((b0.out.trans (hb0.mono (by simp))).alloc (Nat.le_trans (by simp) hb0.size) (.cells #[.int .u8 3] 5))
  have ka := k1.alloc (.cells #[.int .u8 3] 5)
  have q1 := k1.cell
  have qa := ka.cell
  have K1 := Lib.hid ka
  have oa := own_one w0 5 .u8 3 w0.heap.size w0.heap.size rfl (Nat.le_refl _)
  have O1 := Lib.hid oa
  clear hb0 k1 ka oa
  have HB0 : bodyL 3 y t v = [3] := by rw [HBY.out]
  have HB := Lib.hid HB0
  clear HB0
  rw [HB.out] at HE
  have hcr := crc_bd (bodyL_isB 3 y t v)
  rw [HB.out] at hcr
  have HIB := Lib.hid (bodyL_isB 3 y t v)
  rw [HB.out] at HIB
  have on := own_one (w0.alloc (.cells #[.int .u8 3] 5)) 5 .u8 1 (w0.heap.size + 1) (w0.heap.size + 1) (by simp) (Nat.le_refl _)
  have ON := Lib.hid (Nums.of_own on).2
  have OB := Lib.hid (Nums.of_own (O1.out.alloc (.cells #[.int .u8 1] 5))).2
  have BN := Lib.hid (B1.out.alloc B1.out.size (.cells #[.int .u8 1] 5))
  clear on
  go_wp2_with fail
  refine (specJoin_any _ _ _ _ _ _ [1] [3] _ _ _ ON.out OB.out rfl ?hx (Nat.le_refl _) (Nat.le_refl _) (by simp) ?hy).mono ?_
  case hx => rfl
  case hy => simp
  rintro e x1 ⟨f1, d1, rfl, hp1, hc1⟩
  have D1 := Lib.hid (below_next BN.out hc1)
  have R1 := Lib.hid hp1
  have OB1 := Lib.hid (OB.out.below hc1)
  clear hp1 hc1
  go_wp2_with fail
  refine (specCheck_any _ _ _ [3] _ _ OB1.out ?hz HIB.out).mono ?_
  case hz => rfl
  rintro e w' ⟨rfl, rfl⟩
  go_wp2_with fail
  refine (specWide_any (crc [3]) 4 hcr.1 hcr.2 (by omega) _).mono ?_
  rintro e x2 ⟨f2, d2, rfl, hp2, hc2⟩
  have D2 := Lib.hid (below_next D1.out hc2)
  have R2 := Lib.hid (Nums.of_own hp2).2
  have R1b := Lib.hid (Nums.of_own (owns_below R1.out hc2)).2
  clear hp2 hc2
  go_wp2_with fail
  refine (specJoin_any _ _ _ _ _ _ ([1] ++ [3]) (wide 4 (crc [3])) _ _ _ R1b.out R2.out ?ha ?hb (Nat.le_refl _) (Nat.le_refl _) ?hc ?hd).mono ?_
  case ha => first | (simp; done) | (simp; omega)
  case hb => simp
  case hc => simp
  case hd => simp [wide_len]
  rintro e x3 ⟨f3, d3, rfl, hp3, hc3⟩
  have HP : Hid (FreshNums 5 .u8 (putL 3 y t v) w (.returned (.slice f3 (([1] ++ [3]) ++ wide 4 (crc [3])).length d3)) x3) := by
    unfold FreshNums
    rw [HE.out]
    
    exact ⟨f3, d3, rfl, owns_less hp3 D2.out.size, below_next D2.out hc3⟩
  clear hp3 hc3
  go_wp2
  go_ret
  exact fresh_as HP.out (by first | (simp; done) | (simp; omega) | (simp [wide_len]; omega))
theorem specPut_no (k y t v : Int) (hf : fOk k y t v = false) (w : World) :
    Calls Tryz.prog 197 #[(.agg #[.int .i64 k, .int .i64 y, .int .i64 t, .int .i64 v])] w (FreshNums 5 .u8 (putL k y t v) w) := by
  rw [putL_no hf]
  have HF := Lib.hid (specFrameOk_any k y t v)
  rw [hf] at HF
  clear hf
  have b0 := Lib.hid ((Below.refl w.heap.size w).alloc (Nat.le_refl _) (.cells #[.int .i64 k, .int .i64 y, .int .i64 t, .int .i64 v] 97))
  go_enter Tryz.func197, Tryz.ntmps197
  go_wp2_with fail
  refine (HF.out _).mono ?_
  rintro e w1 ⟨rfl, hb1⟩
  have HP : Hid (FreshNums 5 .u8 [] w (.returned (.slice none 0 0)) w1) := ⟨none, 0, rfl, World.ownsRow_nil _ _ _ _, b0.out.trans (hb1.mono (by simp))⟩
  clear hb1
  go_wp2
  go_ret
  exact HP.out
theorem specPut_any (k y t v : Int) (w : World) :
    Calls Tryz.prog 197 #[(.agg #[.int .i64 k, .int .i64 y, .int .i64 t, .int .i64 v])] w (FreshNums 5 .u8 (putL k y t v) w) := by
  cases hf : fOk k y t v with
  | false => exact specPut_no k y t v hf w
  | true =>
    rcases fOk_bd hf with ⟨rfl, h⟩ | ⟨rfl, _, h, h2, _⟩ | ⟨rfl, _⟩
    · exact specPut_event y t v hf h w
    · exact specPut_mark y t v hf ⟨h, h2⟩ w
    · exact specPut_bye y t v hf w

end Go.Proofs.YtnfhlfbkdhpacaaGreatDoor
