/- Chapter 12: slices.DeleteFunc over frames of the call's own. (made by tools/mkdelg.py) -/
import Derived.Test.YtneolndbhklboaaDelF
import Derived.Lib.SliceRun
import Derived.Laws.IdiomCopy
namespace Go.Proofs.Ytneolndbhklboaa
open Go.RowKit
theorem zc_eq : (Value.cells (.agg #[.int .i64 0, .int .i64 0, .int .i64 0, .int .i64 0])) = #[.int .i64 0, .int .i64 0, .int .i64 0, .int .i64 0] := by kernel_rfl
theorem zc_ones (k : Nat) : ∀ v ∈ (Builtin.zeroCells #[.int .i64 0, .int .i64 0, .int .i64 0, .int .i64 0] k).toList, v.oneCell' = true := by
  intro v hv
  simp only [Builtin.zeroCells, Array.toList_map, List.mem_map] at hv
  obtain ⟨i, _, rfl⟩ := hv
  have h4 : i % 4 < 4 := Nat.mod_lt _ (by decide)
  show (#[Value.int .i64 0, .int .i64 0, .int .i64 0, .int .i64 0][i % 4]!).oneCell' = true
  generalize i % 4 = r at h4
  match r, h4 with
  | 0, _ => rfl
  | 1, _ => rfl
  | 2, _ => rfl
  | 3, _ => rfl
theorem zc_len (k : Nat) : (Builtin.zeroCells #[.int .i64 0, .int .i64 0, .int .i64 0, .int .i64 0] k).toList.length = k * 4 := by
  simp [Builtin.zeroCells]
theorem clear_fm (w : World) (ty : TypeId) (b o m cc : Nat) (hc : ∀ j, j < (m + 1) * 4 → (w.cell? ⟨b, o + j, none⟩).isSome = true) (hf : ∀ j, w.frozen? ⟨b, o + j, none⟩ = false) :
    (Builtin.clear_ #[24] ty #[.slice (some ⟨b, o, none⟩) (m + 1) cc]).run Try.prog w = .ok (.tuple #[]) (w.setCells b o (Builtin.zeroCells #[.int .i64 0, .int .i64 0, .int .i64 0, .int .i64 0] (m + 1)).toList) := by
  have hst := run_storeCells_cells (P := Try.prog) b o (Builtin.zeroCells #[.int .i64 0, .int .i64 0, .int .i64 0, .int .i64 0] (m + 1)).toList 0 w (fun j hj => by rw [zc_len] at hj; exact hc j hj) (fun j _ => hf j) (zc_ones (m + 1))
  simp only [Nat.add_zero] at hst
  rw [← zc_eq] at hst ⊢
  simp [Builtin.clear_, run_underlying Try.underlying24, hst]
theorem qel_drop_eq {Y L : List Fm} {a b : Nat} (ha : a < Y.length) (hb : b < L.length) (h : Y.drop a = L.drop b) : qel Y a = qel L b ∧ Y.drop (a + 1) = L.drop (b + 1) := by
  have e1 : Y.drop a = qel Y a :: Y.drop (a + 1) := rel_drop qD ha
  have e2 : L.drop b = qel L b :: L.drop (b + 1) := rel_drop qD hb
  rw [e1, e2] at h
  simpa using h
theorem qel_right {K Y : List Fm} {j : Nat} (h : K.length ≤ j) : qel (K ++ Y) j = qel Y (j - K.length) := by
  simp [qel, rel, List.getD, List.getElem?_append_right h]
/-- A frame stored at the first of the rest. -/
theorem del_step (K Y : List Fm) (a0 a1 a2 a3 : Int) (hY : 0 < Y.length) : (((((flatQ (K ++ Y)).set (K.length * 4) (.int .i64 a0)).set (K.length * 4 + 1) (.int .i64 a1)).set (K.length * 4 + 2) (.int .i64 a2)).set (K.length * 4 + 3) (.int .i64 a3)) = flatQ ((K ++ [⟨a0, a1, a2, a3⟩]) ++ Y.drop 1) := by
  have e2 : Y = qel Y 0 :: Y.drop 1 := by have := rel_drop qD (l := Y) (i := 0) hY; simpa [qel] using this
  have hl : (flatQ K).length = K.length * 4 := flatQ_len K
  have e3 : ∀ (f : Fm) (r : List Fm), flatQ (f :: r) = qC f ++ flatQ r := fun _ _ => rfl
  have e4 : ∀ (f : Fm), flatQ [f] = qC f := fun f => by simp [flatQ, flatR]
  generalize Y.drop 1 = Z at e2 ⊢
  rw [e2, flatQ_append, flatQ_append, flatQ_append, e3, e4]
  generalize flatQ K = FK at hl
  rw [List.set_append_right _ _ (by omega), List.set_append_right _ _ (by omega), List.set_append_right _ _ (by omega), List.set_append_right _ _ (by omega), hl]
  have i0 : K.length * 4 - K.length * 4 = 0 := by omega
  have i1 : K.length * 4 + 1 - K.length * 4 = 1 := by omega
  have i2 : K.length * 4 + 2 - K.length * 4 = 2 := by omega
  have i3 : K.length * 4 + 3 - K.length * 4 = 3 := by omega
  rw [i0, i1, i2, i3]
  simp [qC]
/-- What the clearing leaves: the row cut to its kept. -/
theorem del_cut {w : World} {lo g n c m : Nat} {K Y : List Fm} (ho : w.ownsRow lo 38 4 (.slice (some ⟨g, 0, none⟩) n c) n (flatQ (K ++ Y))) (hK : K.length + (m + 1) = n) :
    (∀ ty cc, (Builtin.clear_ #[24] ty #[.slice (some ⟨g, K.length * 4, none⟩) (m + 1) cc]).run Try.prog w = .ok (.tuple #[]) (w.setCells g (K.length * 4) (Builtin.zeroCells #[.int .i64 0, .int .i64 0, .int .i64 0, .int .i64 0] (m + 1)).toList)) ∧
    (w.setCells g (K.length * 4) (Builtin.zeroCells #[.int .i64 0, .int .i64 0, .int .i64 0, .int .i64 0] (m + 1)).toList).ownsRow lo 38 4 (.slice (some ⟨g, 0, none⟩) K.length c) K.length (flatQ K) ∧
    w.grownBy (w.setCells g (K.length * 4) (Builtin.zeroCells #[.int .i64 0, .int .i64 0, .int .i64 0, .int .i64 0] (m + 1)).toList) (some g) := by
  obtain ⟨hc1, hc2⟩ := ownR_cap ho
  obtain ⟨cur, hcur, hsz, htk, hlog⟩ : ∃ cur : List Value, Blk w g 38 cur.toArray ∧ cur.length = c * 4 ∧ cur.take (n * 4) = flatQ (K ++ Y) ∧ lo ≤ g := by
    rcases ho.2 with ⟨hv', _⟩ | ⟨g', cap, cur, hv', hg', hh, hnc, hcm, hcs, htake⟩
    · simp at hv'
    · simp only [Value.slice.injEq, Option.some.injEq, Addr.mk.injEq, and_true, true_and] at hv'
      obtain ⟨rfl, rfl⟩ := hv'
      exact ⟨cur.toList, by simpa [Blk] using hh, by simpa using hcs, htake, hg'⟩
  have hz := zc_len (m + 1)
  have hfl := flatQ_len K
  refine ⟨fun ty cc => clear_fm w ty g (K.length * 4) m cc (fun j hj => ?_) (fun j => hcur.frozen _), ⟨hfl, .inr ⟨g, c, _, rfl, hlog, blk_setCells g _ (K.length * 4) w cur hcur (by omega), by omega, by unfold maxLen; omega, ?_, ?_⟩⟩, grown_setCells g _ (K.length * 4) w⟩
  · rw [hcur.cell]
    simp [show K.length * 4 + j < cur.length by omega]
  · rw [List.size_toArray, over_len (by omega), hsz]
  · show (over cur (K.length * 4) _).take (K.length * 4) = _
    have h1 : cur.take (K.length * 4) = flatQ K := by
      have e : cur.take (K.length * 4) = (cur.take (n * 4)).take (K.length * 4) := by rw [List.take_take, Nat.min_eq_left (by omega)]
      rw [e, htk, flatQ_append, ← hfl, List.take_left]
    rw [over, List.append_assoc, List.take_append_of_le_length (by rw [List.length_take]; omega), List.take_take, Nat.min_self, h1]
set_option maxHeartbeats 4000000 in
set_option maxRecDepth 100000 in
theorem del_at (g c n lo : Nat) (L : List Fm) (x : Int) (p0 p1 : Value) (w : World) (hr : w.ownsRow lo 38 4 (.slice (some ⟨g, 0, none⟩) n c) n (flatQ L)) (hn : n = L.length) (hlen : n ≤ 1048576) (VA : Vain 88 #[p0, p1] x w g) (i : Nat) (hi1 : i < L.length) (hh : ¬ x ≤ (qel L i).t ∧ ∀ p, p < i → x ≤ (qel L p).t) :
    Calls Try.prog 89 #[.slice (some ⟨g, 0, none⟩) n c, .func (.func 88) #[] #[p0, p1]] w fun e w' => e = .returned (.slice (some ⟨g, 0, none⟩) (ltTo L x n).length c) ∧
      w'.ownsRow lo 38 4 (.slice (some ⟨g, 0, none⟩) (ltTo L x n).length c) (ltTo L x n).length (flatQ (ltTo L x n)) ∧ w.grownBy w' (some g) := by
  have hc := ownR_cap hr
  have IX := Lib.hid (idx_at (some ⟨g, 0, none⟩) n c L x #[p0, p1] w.heap.size g w (Fms.of_own hr) hn (Nat.le_refl _) p0 p1 rfl VA i hi1 hh)
  have HR := Lib.hid hr
  have HV := Lib.hid VA
  have eg : ∀ args w, (callFunc 88 args).run Try.prog w = .ok (.enter 88 args) w := enters_of Try.func88 (by kernel_rfl) rfl
  have HN := Lib.hid hn
  have st : ltTo L x (i + 1) = L.take i := by rw [lt_out hi1 hh.1, lt_all (by omega) hh.2]
  have sl : (ltTo L x (i + 1)).length = i := by rw [st, List.length_take]; omega
  have HS := Lib.hid (show ltTo L x (i + 1) ++ L.drop i = L by rw [st, List.take_append_drop])
  have HSL := Lib.hid sl
  have hin : i < n := by omega
  clear hr VA st sl hn hi1 hh
  have hne : ((i : Int) == -1) = false := by simp
  go_enter Try.func89, Try.ntmps89
  go_wp2_with (go_at_call 105; refine IX.out.mono ?_; rintro e w1 ⟨rfl, hb⟩; have B1 := Lib.hid hb; clear hb)
  go_loopw [5, 6] (fun vi vj wr => ∃ j q : Nat, ∃ Y : List Fm, q < j ∧ j ≤ n ∧ vi = .int .i64 (q : Int) ∧ vj = .int .i64 (j : Int) ∧ (ltTo L x j).length = q ∧ q + Y.length = n ∧ Y.drop (j - q) = L.drop j ∧ wr.ownsRow lo 38 4 (.slice (some ⟨g, 0, none⟩) n c) n (flatQ (ltTo L x j ++ Y)) ∧ w.grownBy wr (some g)) (fun _ vj _ => n - (intOf vj).toNat)
  case atStart => exact ⟨i + 1, i, L.drop i, by omega, by omega, rfl, by go_num, HSL.out, by rw [List.length_drop, ← HN.out]; omega, by rw [Nat.add_sub_cancel_left, List.drop_drop], by rw [HS.out]; exact owns_below HR.out B1.out, grown_any (grown_below B1.out)⟩
  case round =>
    obtain ⟨j, q, Y, hqj, hj, rfl, rfl, hq, hY, hd, hown, hg⟩ := hrel
    have hN := HN.out
    have HO := Lib.hid hown
    have HG := Lib.hid hg
    clear hown hg
    by_cases hlt : j < n
    · obtain ⟨hx, hd2⟩ := qel_drop_eq (by omega) (by omega) hd
      have hqe := qel_right (K := ltTo L x j) (Y := Y) (j := j) (by omega)
      rw [hq, hx] at hqe
      obtain ⟨p0_, p1_, p2_, p3_⟩ := own_fm HO.out j (by rw [List.length_append]; omega)
      rw [hqe] at p0_ p1_ p2_ p3_
      have hnn : 0 ≤ (j : Int) := by omega
      have hlt' : (j : Int) < (n : Int) := by omega
      have hin' := @lt_in L x j (by omega)
      have hout' := @lt_out L x j (by omega)
      have eX : (⟨(qel L j).k, (qel L j).y, (qel L j).t, (qel L j).v⟩ : Fm) = qel L j := rfl
      have HVr := Lib.hid (HV.out.go HG.out)
      clear hx hqe
      generalize qel L j = X at p0_ p1_ p2_ p3_ hin' hout' eX
      obtain ⟨e0, e1, e2, e3⟩ := X
      simp only at p0_ p1_ p2_ p3_ hin' hout'
      have hbA := (Below.refl wr.heap.size wr).alloc (Nat.le_refl _) (.cells #[.int .i64 e0, .int .i64 e1, .int .i64 e2, .int .i64 e3] 38)
      have HBA := Lib.hid hbA
      have CE := Lib.hid (HVr.out (wr.alloc (.cells #[.int .i64 e0, .int .i64 e1, .int .i64 e2, .int .i64 e3] 38)) (grown_any (grown_below hbA)) e0 e1 e2 e3)
      clear hbA
      clear HVr eX
      by_cases hx : x ≤ e2
      · rw [show decide (e2 < x) = false by simp; omega] at CE
        have hin2 := hin' hx
        have st := del_step (ltTo L x j) Y e0 e1 e2 e3 (by omega)
        rw [hq, ← hin2] at st
        have HST := Lib.hid st
        have HL2 := Lib.hid (show (ltTo L x (j + 1)).length = q + 1 by rw [hin2, List.length_append, hq]; rfl)
        have HY2 := Lib.hid (show q + 1 + (Y.drop 1).length = n by rw [List.length_drop]; omega)
        have HD2 := Lib.hid (show (Y.drop 1).drop (j + 1 - (q + 1)) = L.drop (j + 1) by rw [List.drop_drop, ← hd2]; congr 1; omega)
        have HLL := Lib.hid (show (flatQ (ltTo L x j ++ Y)).length = n * 4 by rw [flatQ_len, List.length_append, hq, hY])
        clear hin' hout' hin2 st hd hd2 hN hY hq
        go_wp2_with fail
        refine CE.out.mono ?_
        rintro e w2 ⟨rfl, hb⟩
        have kb := (Blk.new wr 38 #[.int .i64 e0, .int .i64 e1, .int .i64 e2, .int .i64 e3]).below hb
        have k0 := kb.cell 0
        have k1 := kb.cell 1
        have k2 := kb.cell 2
        have k3 := kb.cell 3
        have HB2 := Lib.hid (HBA.out.trans (hb.mono HBA.out.size))
        have HO2 := Lib.hid (owns_below HO.out HB2.out)
        have HG2 := Lib.hid (grown_trans HG.out (grown_any (grown_below HB2.out)))
        clear hb kb HB2 HBA p0_ p1_ p2_ p3_ HO HG CE
        have hll := HLL.out
        have s0 := HO2.out.stored (q * 4) (.int .i64 e0)
        have s1 := s0.1.stored (q * 4 + 1) (.int .i64 e1)
        have s2 := s1.1.stored (q * 4 + 2) (.int .i64 e2)
        have s3 := s2.1.stored (q * 4 + 3) (.int .i64 e3)
        rw [HST.out] at s3
        obtain ⟨u0, c0⟩ : ∃ u, w2.cell? ⟨g, q * 4, none⟩ = some u := ⟨_, (HO2.out.cellAt (q * 4) (by omega)).trans (List.getElem?_eq_getElem (by omega))⟩
        obtain ⟨u1, c1⟩ : ∃ u, (w2.setCell ⟨g, q * 4, none⟩ (.int .i64 e0)).cell? ⟨g, q * 4 + 1, none⟩ = some u := ⟨_, (s0.1.cellAt (q * 4 + 1) (by omega)).trans (List.getElem?_eq_getElem (by rw [List.length_set]; omega))⟩
        obtain ⟨u2, c2⟩ : ∃ u, ((w2.setCell ⟨g, q * 4, none⟩ (.int .i64 e0)).setCell ⟨g, q * 4 + 1, none⟩ (.int .i64 e1)).cell? ⟨g, q * 4 + 2, none⟩ = some u := ⟨_, (s1.1.cellAt (q * 4 + 2) (by omega)).trans (List.getElem?_eq_getElem (by rw [List.length_set, List.length_set]; omega))⟩
        obtain ⟨u3, c3⟩ : ∃ u, (((w2.setCell ⟨g, q * 4, none⟩ (.int .i64 e0)).setCell ⟨g, q * 4 + 1, none⟩ (.int .i64 e1)).setCell ⟨g, q * 4 + 2, none⟩ (.int .i64 e2)).cell? ⟨g, q * 4 + 3, none⟩ = some u := ⟨_, (s2.1.cellAt (q * 4 + 3) (by omega)).trans (List.getElem?_eq_getElem (by rw [List.length_set, List.length_set, List.length_set]; omega))⟩
        have f0 := HO2.out.frozenAt (q * 4)
        have f1 := s0.1.frozenAt (q * 4 + 1)
        have f2 := s1.1.frozenAt (q * 4 + 2)
        have f3 := s2.1.frozenAt (q * 4 + 3)
        have G0 := Lib.hid (grown_trans (grown_trans (grown_trans (grown_trans HG2.out s0.2) s1.2) s2.2) s3.2)
        have S3 := Lib.hid s3.1
        clear s0 s1 s2 s3 HO2 HG2 hll
        have q0 : 0 ≤ (q : Int) := by omega
        have q1 : (q : Int) < (n : Int) := by omega
        go_wp2
        go_roundw
        case rel => exact ⟨j + 1, q + 1, Y.drop 1, by omega, by omega, by go_num, by go_num, HL2.out, HY2.out, HD2.out, S3.out, G0.out⟩
        case measure => simp [intOf]; omega
      · rw [show decide (e2 < x) = true by simp; omega] at CE
        have hout2 := hout' hx
        have HL2 := Lib.hid (show (ltTo L x (j + 1)).length = q by rw [hout2, hq])
        have HD2 := Lib.hid (show Y.drop (j + 1 - q) = L.drop (j + 1) by rw [← hd2]; congr 1; omega)
        rw [← hout2] at HO
        clear hin' hout' hout2 hd hd2 hN hq
        have HYY := Lib.hid hY
        clear hY
        go_wp2_with fail
        refine CE.out.mono ?_
        rintro e w2 ⟨rfl, hb⟩
        have HB2 := Lib.hid (HBA.out.trans (hb.mono HBA.out.size))
        have HO2 := Lib.hid (owns_below HO.out HB2.out)
        have HG2 := Lib.hid (grown_trans HG.out (grown_any (grown_below HB2.out)))
        clear hb HB2 HBA p0_ p1_ p2_ p3_ HO HG CE
        go_wp2
        go_roundw
        case rel => exact ⟨j + 1, q, Y, by omega, by omega, rfl, by go_num, HL2.out, HYY.out, HD2.out, HO2.out, HG2.out⟩
        case measure => simp [intOf]; omega
    · obtain rfl : j = n := by omega
      obtain ⟨m, hm⟩ : ∃ m, Y.length = m + 1 := ⟨Y.length - 1, by omega⟩
      obtain ⟨hcl, ho2, hg2⟩ := del_cut HO.out (m := m) (by omega)
      have HP := Lib.hid (And.intro ho2 (grown_trans HG.out hg2))
      clear ho2 hg2 HO HG hd HN
      generalize hK : ltTo L x j = K at hcl HP hq
      subst hq
      have e1 : j - K.length = m + 1 := by omega
      have n1 : ¬ c = K.length := by omega
      have n2 : ¬ c = 0 := by omega
      have hkc : K.length ≤ c := by omega
      have hjc : j ≤ c := by omega
      have hkj : K.length ≤ j := by omega
      have hcl0 := hcl 0 (c - K.length)
      clear hcl hY hN hm
      go_wp2
      go_ret
      rw [hK]
      exact ⟨rfl, HP.out⟩
set_option maxHeartbeats 2000000 in
theorem del_none (a : Option Addr) (g c n lo : Nat) (L : List Fm) (x : Int) (p0 p1 : Value) (w : World) (hr : w.ownsRow lo 38 4 (.slice a n c) n (flatQ L)) (hn : n = L.length) (VA : Vain 88 #[p0, p1] x w g) (hh : ∀ p, p < L.length → x ≤ (qel L p).t) :
    Calls Try.prog 89 #[.slice a n c, .func (.func 88) #[] #[p0, p1]] w fun e w' => e = .returned (.slice a (ltTo L x n).length c) ∧
      w'.ownsRow lo 38 4 (.slice a (ltTo L x n).length c) (ltTo L x n).length (flatQ (ltTo L x n)) ∧ Below w.heap.size w w' := by
  have IX := Lib.hid (idx_all a n c L x #[p0, p1] w.heap.size g w (Fms.of_own hr) hn (Nat.le_refl _) p0 p1 rfl VA hh)
  have el : ltTo L x n = L := by rw [hn, lt_all (Nat.le_refl _) hh, List.take_length]
  have HR := Lib.hid hr
  have HL := Lib.hid (show n = (ltTo L x n).length by rw [el, hn])
  have HE := Lib.hid el
  clear hr VA hn hh el
  go_enter Try.func89, Try.ntmps89
  go_wp2_with (go_at_call 105; refine IX.out.mono ?_; rintro e w1 ⟨rfl, hb⟩; have B1 := Lib.hid hb; clear hb)
  go_ret
  rw [← HL.out]
  exact ⟨rfl, by rw [HE.out]; exact owns_below HR.out B1.out, B1.out⟩
theorem grown_from {w w' : World} (h : w.grownBy w' none) (o : Option Nat) : w.grownBy w' o := ⟨h.os, h.tape, h.output, h.size, fun k hk _ => h.block k hk (by simp)⟩
theorem del_any (a : Option Addr) (g c n lo : Nat) (L : List Fm) (x : Int) (p0 p1 : Value) (w : World) (hr : w.ownsRow lo 38 4 (.slice a n c) n (flatQ L)) (hn : n = L.length) (hlen : n ≤ 1048576) (hga : ∀ p, a = some p → p.block = g) (VA : Vain 88 #[p0, p1] x w g) :
    Calls Try.prog 89 #[.slice a n c, .func (.func 88) #[] #[p0, p1]] w fun e w' => e = .returned (.slice a (ltTo L x n).length c) ∧
      w'.ownsRow lo 38 4 (.slice a (ltTo L x n).length c) (ltTo L x n).length (flatQ (ltTo L x n)) ∧ w.grownBy w' (Value.slice a n c).ownBlock := by
  rcases first_or L x L.length (Nat.le_refl _) with h | ⟨i, hi, h1, h2⟩
  · exact (del_none a g c n lo L x p0 p1 w hr hn VA h).mono (fun _ _ h => ⟨h.1, h.2.1, grown_from (grown_below h.2.2) _⟩)
  · obtain ⟨g', rfl, _, _⟩ := ownR_block hr (by omega)
    obtain rfl : g' = g := hga _ rfl
    exact del_at g' c n lo L x p0 p1 w hr hn hlen VA i hi ⟨h1, h2⟩
end Go.Proofs.Ytneolndbhklboaa
