/- impl.FramesLeft, spec.FramesLeft: loops over the connections, and within over a decoder. -/
import Derived.Test.YtnfhlfbkdhpacaaGreatDoorPlainLeft
namespace Go.Proofs.YtnfhlfbkdhpacaaGreatDoor
open Go.RowKit

theorem nx_isB {xs : List Int} {b : Bool} (h : IsB xs) : IsB (nx xs b).left := by
  unfold nx
  split
  · split
    · exact h.drop _
    · split
      · exact h
      · exact IsB.nil
  · exact h
/-- A decoder's bytes, below block cb or of the call's own above it. -/
def RowAt (w : World) (cb : Nat) (a : Option Addr) (c : Nat) (xs : List Int) : Prop := Nums .u8 w cb a c xs ∨ w.ownsRow (cb + 1) 5 1 (.slice a xs.length c) xs.length (xs.map (Value.int .u8))
theorem RowAt.nums {w : World} {cb : Nat} {a : Option Addr} {c : Nat} {xs : List Int} (h : RowAt w cb a c xs) (hcb : cb ≤ w.heap.size) : Nums .u8 w w.heap.size a c xs := by
  rcases h with h | h
  · exact h.more hcb
  · exact (Nums.of_own h).2
theorem RowAt.below {w w' : World} {cb : Nat} {a : Option Addr} {c : Nat} {xs : List Int} (h : RowAt w cb a c xs) (hcb : cb ≤ w.heap.size) (hb : Below w.heap.size w w') : RowAt w' cb a c xs := by
  rcases h with h | h
  · exact .inl (h.below (hb.mono hcb))
  · exact .inr (owns_below h hb)
theorem RowAt.set {w : World} {cb : Nat} {a : Option Addr} {c : Nat} {xs : List Int} (h : RowAt w cb a c xs) (i : Nat) (u : Value) : RowAt (w.setCell ⟨cb, i, none⟩ u) cb a c xs := by
  rcases h with h | h
  · exact .inl (h.below ((Below.refl cb w).setCell (p := ⟨cb, i, none⟩) (Nat.le_refl _) u))
  · exact .inr (ownsR_setCell_below h (p := ⟨cb, i, none⟩) (Nat.lt_succ_self _) u)
theorem nums_bd {w : World} {hi : Nat} {a : Option Addr} {c : Nat} {xs : List Int} (h : Nums .u8 w hi a c xs) : xs.length ≤ c ∧ c ≤ 9223372036854775807 := ⟨h.cap, h.big⟩
/-- What the loop over one connection keeps. -/
structure LeftAt (w : World) (T : TypeId) (tail : List Value) (cb total : Nat) (m : Nat) (xs : List Int) (b : Bool) (a : Option Addr) (c : Nat) (wr : World) : Prop where
  sum : m + frN xs b = total
  blk : Blk wr cb T (([.slice a xs.length c, .bool b] : List Value) ++ tail).toArray
  row : RowAt wr cb a c xs
  isb : IsB xs
  len : xs.length ≤ 1048576
  bel : Below w.heap.size w wr
  lo : w.heap.size ≤ cb

set_option maxHeartbeats 4000000 in
set_option maxRecDepth 100000 in
theorem implLeft_any (E : En) (q : Pl) (L : List Value) (aB aS : Addr) (w : World) (hL : L = evL E q) (hr : EnR w w.heap.size q E) (hf : EnFits E) (hB : EnB E) (ht : Flt w w.heap.size aB aS) :
    Calls Tryz.prog 18 #[.agg L.toArray] w fun e w' => e = .returned (.int .i64 (frT E.cs E.cs.length : Nat)) ∧ Below w.heap.size w w' := by
  have K := Blk.new w 45 L.toArray
  have b1 := (Below.refl w.heap.size w).alloc (Nat.le_refl _) (.cells L.toArray 45)
  have c11 : (w.alloc (.cells L.toArray 45)).cell? ⟨w.heap.size, 11, none⟩ = some (.slice q.a0 E.cs.length q.c0) := by rw [K.cell, hL]; rfl
  unfold EnFits at hf
  have f1 : E.cs.length + totH hdCn cnD E.cs E.cs.length ≤ 1048576 := by omega
  have hQ := hr.cs
  have m3 := hQ.cap
  have m4 := hQ.big
  have B1 := Lib.hid b1
  unfold EnB at hB
  have q11 := c11
  obtain ⟨qa, hqa⟩ : ∃ z, z = q.a0 := ⟨_, rfl⟩
  obtain ⟨qc, hqc⟩ : ∃ z, z = q.c0 := ⟨_, rfl⟩
  obtain ⟨cs, hcs⟩ : ∃ z, z = E.cs := ⟨_, rfl⟩
  rw [← hqa, ← hqc, ← hcs] at hQ c11
  rw [← hqc, ← hcs] at m3
  rw [← hqc] at m4
  rw [← hcs] at f1 hB ⊢
  clear q11 hf hr hqa hqc hcs K hL b1
  have HQ := Lib.hid hQ
  have HF := Lib.hid ht
  have HIB := Lib.hid hB
  clear hQ ht hB
  go_enter Tryz.func18, Tryz.ntmps18
  go_wp2_with fail
  go_loopw [3, 9] (fun n i wr => ∃ j : Nat, j ≤ cs.length ∧ i = .int .i64 j ∧ n = .int .i64 (frT cs j : Nat) ∧ Below w.heap.size w wr) (fun _ i _ => cs.length - (intOf i).toNat)
  case atStart => exact ⟨0, Nat.zero_le _, rfl, rfl, B1.out⟩
  case round =>
    obtain ⟨j, hj, rfl, rfl, hb⟩ := hrel
    by_cases hlt : j < cs.length
    · have hlt' : (j : Int) < (cs.length : Int) := by omega
      obtain ⟨b, off, rfl, hbh, hcell⟩ := (HQ.out.below hb).cells (by omega)
      obtain ⟨ai, ci, h0, hq, hrd⟩ := hcell j hlt
      have hIB := HIB.out j hlt
      have hln := head_le (H := hdCn) (d := cnD) (l := cs) hlt
      have hT : frT cs (j + 1) = frT cs j + frN (rel cnD cs j).l (rel cnD cs j).bad := rfl
      have hbd := frT_le cs (j + 1)
      have htl := totH_le (H := hdCn) (d := cnD) (l := cs) (show j + 1 ≤ cs.length from hlt)
      generalize rel cnD cs j = S at h0 hq hrd hIB hln hT
      obtain ⟨xl, bad, mx, mr, sn, idl, opn⟩ := S
      simp only at hIB hT
      have hrd : Nums .u8 wr w.heap.size ai ci xl := hrd
      have hln : xl.length ≤ totH hdCn cnD cs cs.length := hln
      have q0 : wr.cell? ⟨b, off + j * 7, none⟩ = some (.slice ai xl.length ci) := h0
      have q1 : wr.cell? ⟨b, off + j * 7 + 1, none⟩ = some (.bool bad) := hq 0 (by omega)
      have q2 : wr.cell? ⟨b, off + j * 7 + 2, none⟩ = some (.int .i64 mx) := hq 1 (by omega)
      have q3 : wr.cell? ⟨b, off + j * 7 + 3, none⟩ = some (.int .i64 mr) := hq 2 (by omega)
      have q4 : wr.cell? ⟨b, off + j * 7 + 4, none⟩ = some (.int .i64 sn) := hq 3 (by omega)
      have q5 : wr.cell? ⟨b, off + j * 7 + 5, none⟩ = some (.bool idl) := hq 4 (by omega)
      have q6 : wr.cell? ⟨b, off + j * 7 + 6, none⟩ = some (.bool opn) := hq 5 (by omega)
      obtain ⟨F0, hF0⟩ : ∃ F0, F0 = frT cs j := ⟨_, rfl⟩
      rw [← hF0] at hT ⊢
      rw [hT] at hbd
      have HT := Lib.hid hT
      have hbs := hb.size
      have hF1 : F0 + frN xl bad ≤ 2097152 := by omega
      have AT : Hid (LeftAt w 95 [.int .i64 mx, .int .i64 mr, .int .i64 sn, .bool idl, .bool opn] wr.heap.size (F0 + frN xl bad) F0 xl bad ai ci (wr.alloc (.cells #[.slice ai xl.length ci, .bool bad, .int .i64 mx, .int .i64 mr, .int .i64 sn, .bool idl, .bool opn] 95))) :=
        Lib.hid ⟨rfl, Blk.new wr _ _, .inl ((hrd.below ((Below.refl _ wr).alloc hbs _)).more hbs), hIB, by omega, hb.alloc hbs _, hbs⟩
      clear hcell h0 hq hrd hIB hT hbd htl hln hF0
      go_wp2_with fail
      clear q0 q1 q2 q3 q4 q5 q6
      rename World => wq
      go_loopw [3] (fun n w3 => ∃ (m : Nat) (xs : List Int) (bd : Bool) (a3 : Option Addr) (c3 : Nat), n = .int .i64 m ∧ wq.heap.size < w3.heap.size ∧ LeftAt w 95 [.int .i64 mx, .int .i64 mr, .int .i64 sn, .bool idl, .bool opn] wq.heap.size (F0 + frN xl bad) m xs bd a3 c3 w3) (fun n _ => F0 + frN xl bad - (intOf n).toNat)
      case atStart => exact ⟨F0, xl, bad, ai, ci, rfl, by simp, AT.out⟩
      case round =>
        obtain ⟨m, xs, bd, a3, c3, rfl, hsw, hat⟩ := hrel
        have hk : Blk wr wq.heap.size 95 #[.slice a3 xs.length c3, .bool bd, .int .i64 mx, .int .i64 mr, .int .i64 sn, .bool idl, .bool opn] := hat.blk
        have hm := hat.sum
        have HH := Lib.hid (hasFr_x xs bd mx mr sn idl opn a3 c3 aB aS wr (hat.row.nums (by omega)) hat.isb hat.len ((HF.out.below hat.bel).more hat.bel.size))
        have HK := Lib.hid hk
        have HAT := Lib.hid hat
        have HM := Lib.hid hm
        have qk := hk.cell
        have hmle : m ≤ F0 + frN xl bad := by omega
        clear hk hat hm
        cases hrc : rdC ⟨xs, bd, mx, mr, sn, idl, opn⟩ with
        | false =>
          have h0 : frN xs bd = 0 := frN_stop hrc
          have HM0 : Hid ((m : Int) = (frT cs (j + 1) : Nat)) := Lib.hid (by rw [HT.out]; have := HM.out; omega)
          rw [hrc] at HH
          clear hrc h0
          go_wp2_with fail
          clear qk
          refine HH.out.mono ?_
          rintro e w4 ⟨rfl, hb4⟩
          have B4 := Lib.hid (HAT.out.bel.trans (hb4.mono HAT.out.bel.size))
          clear hb4
          go_wp2
          go_roundw
          case rel => exact ⟨j + 1, by omega, by go_num, by rw [HM0.out], B4.out⟩
          case measure => simp [intOf]; omega
        | true =>
          have hst : frN xs bd = 1 + frN (nx xs bd).left (nx xs bd).bad := frN_step hrc
          have hib := nx_isB (b := bd) HAT.out.isb
          have hll := nx_len xs bd
          have hal := HAT.out.len
          rw [hrc] at HH
          clear hrc
          have HTN := Lib.hid (fun (W : World) (hb : Below wr.heap.size wr W) => implNext_any W.heap.size a3 xs.length c3 bd xs aB aS W ((HAT.out.row.below (by omega) hb).nums (by have := hb.size; omega)) rfl (Nat.le_refl _) HAT.out.isb HAT.out.len ((HF.out.below (HAT.out.bel.trans (hb.mono HAT.out.bel.size))).more (Nat.le_trans HAT.out.bel.size hb.size)))
          generalize nx xs bd = r at hst hib hll HTN
          obtain ⟨left, rb, rk, ry, rt, rv, rc⟩ := r
          simp only at hst hib hll
          have HST := Lib.hid hst
          have HIL := Lib.hid hib
          clear hst hib
          go_wp2_with fail
          clear qk
          refine HH.out.mono ?_
          rintro e w4 ⟨rfl, hb4⟩
          have hk4 := HK.out.below hb4
          have hs4 := hb4.size
          have K4 := Lib.hid hk4
          have B4 := Lib.hid hb4
          have qk := hk4.cell
          clear hk4 hb4
          go_wp2_with fail
          clear qk
          refine (HTN.out w4 B4.out).mono ?_
          rintro e w5 ⟨a5, c5, rfl, ho5, hb5⟩
          have hs5 := hb5.size
          have k5 := K4.out.below hb5
          have f5 := k5.frozen
          have q5 := k5.cell
          have AT5 : Hid (LeftAt w 95 [.int .i64 mx, .int .i64 mr, .int .i64 sn, .bool idl, .bool opn] wq.heap.size (F0 + frN xl bad) (m + 1) left rb a5 c5 ((w5.setCell ⟨wq.heap.size, 0, none⟩ (.slice a5 left.length c5)).setCell ⟨wq.heap.size, 1, none⟩ (.bool rb))) := by
            refine Lib.hid ⟨?_, ?_, ?_, HIL.out, by omega, ?_, hbs⟩
            · have := HM.out
              have := HST.out
              omega
            · have z := (k5.put_ 0 (.slice a5 left.length c5)).put_ 1 (.bool rb)
              simp only [List.setIfInBounds_toArray, List.set_cons_zero, List.set_cons_succ] at z
              exact z
            · exact (RowAt.set (.inr (owns_less ho5 (by omega))) 0 _).set 1 _
            · exact (((HAT.out.bel.trans (B4.out.mono HAT.out.bel.size)).trans (hb5.mono (by omega))).setCell (p := ⟨wq.heap.size, 0, none⟩) hbs _).setCell (p := ⟨wq.heap.size, 1, none⟩) hbs _
          have hmi : (m : Int) + 1 ≤ 2097153 := by omega
          have HM1 : Hid (m + 1 ≤ F0 + frN xl bad) := Lib.hid (by have := HM.out; have := HST.out; omega)
          clear k5 ho5 hb5
          go_wp2
          go_roundw
          case rel => exact ⟨m + 1, left, rb, a5, c5, by go_num, by simp; omega, AT5.out⟩
          case measure =>
            have := HM1.out
            simp [intOf]
            omega
    · obtain rfl : j = cs.length := by omega
      have B3 := Lib.hid hb
      clear hb
      go_wp2
      go_ret
      exact ⟨rfl, B3.out⟩
end Go.Proofs.YtnfhlfbkdhpacaaGreatDoor
