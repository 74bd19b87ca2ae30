/- (impl.Shard).pileOf: the pile of the aggs that may close. -/
import Derived.Test.YtnfhlfbkdhpacaaHeap8
namespace Go.Proofs.Ytnfhlfbkdhpacaa
open Go.RowKit

theorem closedAt_z (u0 u1 u2 u3 u4 u5 m s : Int) (w : World) : Calls Try.prog 51 #[(.agg #[.int .i64 u0, .int .i64 u1, .int .i64 u2, .int .i64 u3, .int .i64 u4, .int .i64 u5]), .int .i64 m, .int .i64 s] w fun e w' => e = .returned (.bool (decide (windowEnd u0 s ≤ m))) ∧ Below w.heap.size w w' := by
  have B0 := Lib.hid ((Below.refl w.heap.size w).alloc (Nat.le_refl _) (.cells #[.int .i64 u0, .int .i64 u1, .int .i64 u2, .int .i64 u3, .int .i64 u4, .int .i64 u5] 37))
  have CE := Lib.hid (fun W => implWinEnd_any u0 s W)
  generalize windowEnd u0 s = X at CE ⊢
  have CL := Lib.hid (fun W => implLate_any m X W)
  generalize decide (X ≤ m) = R at CL ⊢
  go_enter Try.func51, Try.ntmps51
  go_wp2_with fail
  refine (CE.out _).mono ?_
  rintro e w' ⟨rfl, rfl⟩
  go_wp2_with fail
  refine (CL.out _).mono ?_
  rintro e w' ⟨rfl, rfl⟩
  go_wp2
  go_ret
  exact ⟨rfl, B0.out⟩
/-- Whether an agg may come out. -/
def mayOut (al : Bool) (mk sz : Int) (S : Ag) : Bool := al || decide (windowEnd S.win sz ≤ mk)
def pickL (al : Bool) (mk sz : Int) (l : List Ag) : List Ag := l.filter (mayOut al mk sz)
theorem pick_yes {al : Bool} {mk sz : Int} {l : List Ag} {j : Nat} (hj : j < l.length) (h : mayOut al mk sz (ael l j) = true) : pickL al mk sz (l.take (j + 1)) = pickL al mk sz (l.take j) ++ [ael l j] := by
  unfold pickL
  rw [ael_take hj, List.filter_append]
  simp [h]
theorem pick_no {al : Bool} {mk sz : Int} {l : List Ag} {j : Nat} (hj : j < l.length) (h : mayOut al mk sz (ael l j) = false) : pickL al mk sz (l.take (j + 1)) = pickL al mk sz (l.take j) := by
  unfold pickL
  rw [ael_take hj, List.filter_append]
  simp [h]
theorem pick_len (al : Bool) (mk sz : Int) (l : List Ag) (j : Nat) : (pickL al mk sz (l.take j)).length ≤ l.length := by
  unfold pickL
  exact Nat.le_trans (List.length_filter_le _ _) (by simp; omega)
/-- The last one of an ascending list is not ahead of its parent. -/
theorem rising_last {m : List Ag} {S : Ag} (h : Rising (m ++ [S])) : aheadA (ael (m ++ [S]) m.length) (ael (m ++ [S]) ((m.length - 1) / 2)) = false := by
  rcases Nat.eq_zero_or_pos m.length with h0 | h0
  · rw [h0]; exact ahead_irrefl _
  · exact ahead_asymm (h.at (by omega) (by simp))
theorem rising_pick {al : Bool} {mk sz : Int} {l : List Ag} (h : Rising l) (j : Nat) : Rising (pickL al mk sz (l.take j)) := Rising.filter (List.Pairwise.sublist (List.take_sublist j l) h) _
set_option maxHeartbeats 2000000 in
set_option maxRecDepth 100000 in
theorem pileOf_x (a : Option Addr) (c : Nat) (mk lt ov sz : Int) (al : Bool) (l : List Ag) (hi : Nat) (w : World) (hr : Ags w hi a c l) (hB : hi ≤ w.heap.size) (hri : Rising l) (hlen : l.length ≤ 1048575) :
    Calls Try.prog 39 #[.agg #[.slice a l.length c, .int .i64 mk, .int .i64 lt, .int .i64 ov], .int .i64 sz, .bool al] w fun e w' => ∃ pb a2 c2, e = .returned (.pointer (some ⟨pb, 0, none⟩)) ∧ w.heap.size ≤ pb ∧
      Blk w' pb 69 #[.slice a2 (pickL al mk sz l).length c2] ∧ w'.ownsRow w.heap.size 37 6 (.slice a2 (pickL al mk sz l).length c2) (pickL al mk sz l).length (flatA (pickL al mk sz l)) ∧ Below w.heap.size w w' := by
  have m1 := hr.cap
  have m2 := hr.big
  have HR := Lib.hid hr
  have HRI := Lib.hid (fun j => rising_pick (al := al) (mk := mk) (sz := sz) hri j)
  have HRL0 := Lib.hid (fun j => pick_len al mk sz l j)
  have BW := Lib.hid (((Below.refl w.heap.size w).alloc (Nat.le_refl _) (.cells #[.slice a l.length c, .int .i64 mk, .int .i64 lt, .int .i64 ov] 29)).alloc (by simp) (.cells #[] 37) |>.alloc (by simp; omega) (.cells #[.slice (some ⟨w.heap.size + 1, 0, none⟩) 0 0] 69))
  have KS0 := Lib.hid (((Blk.new w 29 #[.slice a l.length c, .int .i64 mk, .int .i64 lt, .int .i64 ov]).alloc (.cells #[] 37)).alloc (.cells #[.slice (some ⟨w.heap.size + 1, 0, none⟩) 0 0] 69))
  have kr := (Blk.new (w.alloc (.cells #[.slice a l.length c, .int .i64 mk, .int .i64 lt, .int .i64 ov] 29)) 37 #[]).alloc (.cells #[.slice (some ⟨w.heap.size + 1, 0, none⟩) 0 0] 69)
  rw [World.size_alloc] at kr
  have kp := Blk.new ((w.alloc (.cells #[.slice a l.length c, .int .i64 mk, .int .i64 lt, .int .i64 ov] 29)).alloc (.cells #[] 37)) 69 #[.slice (some ⟨w.heap.size + 1, 0, none⟩) 0 0]
  rw [World.size_alloc, World.size_alloc] at kp
  have KP0 := Lib.hid kp
  have O0 : Hid ((((w.alloc (.cells #[.slice a l.length c, .int .i64 mk, .int .i64 lt, .int .i64 ov] 29)).alloc (.cells #[] 37)).alloc (.cells #[.slice (some ⟨w.heap.size + 1, 0, none⟩) 0 0] 69)).ownsRow (w.heap.size + 1) 37 6 (.slice (some ⟨w.heap.size + 1, 0, none⟩) 0 0) 0 (flatA [])) := Lib.hid ⟨rfl, .inr ⟨_, 0, #[], rfl, Nat.le_refl _, kr, Nat.le_refl _, by unfold maxLen; omega, rfl, rfl⟩⟩
  have hp0 : pickL al mk sz (l.take 0) = [] := rfl
  have HP0 := Lib.hid hp0
  clear hr hri kr kp hp0
  go_enter Try.func39, Try.ntmps39
  go_wp2
  go_loopw [15] (fun i wr => ∃ (j : Nat) (a2 : Option Addr) (c2 : Nat), j ≤ l.length ∧ i = .int .i64 j ∧ Blk wr (w.heap.size + 1 + 1) 69 #[.slice a2 (pickL al mk sz (l.take j)).length c2] ∧
    wr.ownsRow (w.heap.size + 1) 37 6 (.slice a2 (pickL al mk sz (l.take j)).length c2) (pickL al mk sz (l.take j)).length (flatA (pickL al mk sz (l.take j))) ∧ Blk wr w.heap.size 29 #[.slice a l.length c, .int .i64 mk, .int .i64 lt, .int .i64 ov] ∧ Below w.heap.size w wr) (fun i _ => l.length - (intOf i).toNat)
  case atStart => exact ⟨0, _, _, Nat.zero_le _, rfl, by rw [HP0.out]; exact KP0.out, by rw [HP0.out]; exact O0.out, KS0.out, BW.out⟩
  case round =>
    obtain ⟨j, a2, c2, hj, rfl, hk, ho, hks, hb⟩ := hrel
    have hml := HRL0.out j
    by_cases hlt : j < l.length
    · obtain ⟨b, off, rfl, hbh, hcell⟩ := Ags.six (HR.out.below (hb.mono hB)) (by omega)
      obtain ⟨q0, q1, q2, q3, q4, q5⟩ := hcell j hlt
      have hlt' : (j : Int) < (l.length : Int) := by omega
      have HYES := Lib.hid (fun h => pick_yes (al := al) (mk := mk) (sz := sz) hlt h)
      have HNO := Lib.hid (fun h => pick_no (al := al) (mk := mk) (sz := sz) hlt h)
      have HRJ := Lib.hid (HRI.out (j + 1))
      generalize pickL al mk sz (l.take j) = m at hk ho hml HYES HNO
      generalize ael l j = S at q0 q1 q2 q3 q4 q5 HYES HNO
      obtain ⟨u0, u1, u2, u3, u4, u5⟩ := S
      simp only at q0 q1 q2 q3 q4 q5
      have HML := Lib.hid hml
      have hpl := hk.lt
      have k3 := hk.alloc (.cells #[.int .i64 u0, .int .i64 u1, .int .i64 u2, .int .i64 u3, .int .i64 u4, .int .i64 u5] 37)
      have o3 := ho.alloc (.cells #[.int .i64 u0, .int .i64 u1, .int .i64 u2, .int .i64 u3, .int .i64 u4, .int .i64 u5] 37)
      have ks3 := hks.alloc (.cells #[.int .i64 u0, .int .i64 u1, .int .i64 u2, .int .i64 u3, .int .i64 u4, .int .i64 u5] 37)
      have b3 := hb.alloc hb.size (.cells #[.int .i64 u0, .int .i64 u1, .int .i64 u2, .int .i64 u3, .int .i64 u4, .int .i64 u5] 37)
      have x3 := Blk.new wr 37 #[.int .i64 u0, .int .i64 u1, .int .i64 u2, .int .i64 u3, .int .i64 u4, .int .i64 u5]
      have K3 := Lib.hid k3
      have O3 := Lib.hid o3
      have KS3 := Lib.hid ks3
      have B3 := Lib.hid b3
      have X3 := Lib.hid x3
      have qks := hks.cell
      clear hcell hk ho hks hb hml k3 o3 ks3 b3 x3
      cases al with
      | true =>
        have hy := HYES.out (by simp [mayOut])
        have HY := Lib.hid hy
        have HRL := Lib.hid (rising_last (by have z := HRJ.out; rw [hy] at z; exact z))
        clear hy
        have HPU := Lib.hid (heapPush_x (w.heap.size + 1 + 1) (w.heap.size + 1) c2 a2 m ⟨u0, u1, u2, u3, u4, u5⟩ _ K3.out O3.out (by omega) (by have := HML.out; omega) HRL.out)
        go_wp2_with fail
        clear qks
        refine HPU.out.mono ?_
        rintro e w5 ⟨rfl, a5, c5, k5, o5, b5⟩
        have KS5 := Lib.hid (KS3.out.belowB b5 (by omega))
        have B5 := Lib.hid (B3.out.trans (b5.mono (by omega)))
        have K5 := Lib.hid k5
        have O5 := Lib.hid o5
        clear k5 o5 b5
        go_wp2
        go_roundw
        case rel => exact ⟨j + 1, a5, c5, by omega, by go_num, by rw [HY.out]; exact K5.out, by rw [HY.out]; exact O5.out, KS5.out, B5.out⟩
        case measure => simp [intOf]; omega
      | false =>
        have CC := Lib.hid (fun W => closedAt_z u0 u1 u2 u3 u4 u5 mk sz W)
        have qk1 : (wr.alloc (.cells #[.int .i64 u0, .int .i64 u1, .int .i64 u2, .int .i64 u3, .int .i64 u4, .int .i64 u5] 37)).cell? ⟨w.heap.size, 1, none⟩ = some (.int .i64 mk) := KS3.out.cell 1
        clear qks
        cases hd : decide (windowEnd u0 sz ≤ mk) with
        | false =>
          have hn := HNO.out (by simp only [mayOut, Bool.false_or]; exact hd)
          have HN := Lib.hid hn
          rw [hd] at CC
          clear hn hd
          go_wp2_with fail
          refine (CC.out _).mono ?_
          rintro e w4 ⟨rfl, hb4⟩
          have K4 := Lib.hid (K3.out.below hb4)
          have O4 := Lib.hid (owns_below O3.out hb4)
          have KS4 := Lib.hid (KS3.out.below hb4)
          have B4 := Lib.hid (B3.out.trans (hb4.mono B3.out.size))
          clear hb4 qk1
          go_wp2
          go_roundw
          case rel => exact ⟨j + 1, a2, c2, by omega, by go_num, by rw [HN.out]; exact K4.out, by rw [HN.out]; exact O4.out, KS4.out, B4.out⟩
          case measure => simp [intOf]; omega
        | true =>
          have hy := HYES.out (by simp only [mayOut, Bool.false_or]; exact hd)
          have HY := Lib.hid hy
          have HRL := Lib.hid (rising_last (by have z := HRJ.out; rw [hy] at z; exact z))
          rw [hd] at CC
          clear hy hd
          go_wp2_with fail
          refine (CC.out _).mono ?_
          rintro e w4 ⟨rfl, hb4⟩
          have K4 := Lib.hid (K3.out.below hb4)
          have O4 := Lib.hid (owns_below O3.out hb4)
          have KS4 := Lib.hid (KS3.out.below hb4)
          have B4 := Lib.hid (B3.out.trans (hb4.mono B3.out.size))
          have q9 := (X3.out.below hb4).cell
          clear hb4 qk1
          have HPU := Lib.hid (heapPush_x (w.heap.size + 1 + 1) (w.heap.size + 1) c2 a2 m ⟨u0, u1, u2, u3, u4, u5⟩ _ K4.out O4.out (by omega) (by have := HML.out; omega) HRL.out)
          go_wp2_with fail
          clear q9
          refine HPU.out.mono ?_
          rintro e w5 ⟨rfl, a5, c5, k5, o5, b5⟩
          have KS5 := Lib.hid (KS4.out.belowB b5 (by omega))
          have B5 := Lib.hid (B4.out.trans (b5.mono (by omega)))
          have K5 := Lib.hid k5
          have O5 := Lib.hid o5
          clear k5 o5 b5
          go_wp2
          go_roundw
          case rel => exact ⟨j + 1, a5, c5, by omega, by go_num, by rw [HY.out]; exact K5.out, by rw [HY.out]; exact O5.out, KS5.out, B5.out⟩
          case measure => simp [intOf]; omega
    · obtain rfl : j = l.length := by omega
      have hall : pickL al mk sz (l.take l.length) = pickL al mk sz l := by rw [List.take_length]
      rw [hall] at hk ho
      have K3 := Lib.hid hk
      have O3 := Lib.hid (owns_less ho (show w.heap.size ≤ w.heap.size + 1 by omega))
      have B3 := Lib.hid hb
      clear hk ho hks hb hall hml
      go_wp2
      go_ret
      exact ⟨w.heap.size + 1 + 1, a2, c2, rfl, by omega, K3.out, O3.out, B3.out⟩
end Go.Proofs.Ytnfhlfbkdhpacaa
