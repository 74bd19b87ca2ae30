/- Chapter 12, spec's side: l12Frames, l12Left. (made by tools/mkjoin4.py) -/
import Derived.Test.YtneolndbhklboaaFmA
import Derived.IntWalk
import Derived.OwnWalk
namespace Go.Proofs.Ytneolndbhklboaa
open Go.RowKit
set_option maxHeartbeats 2000000 in
set_option maxRecDepth 100000 in
theorem sFrames_any (a : Option Addr) (n c : Nat) (L : List Fm) (hi : Nat) (w : World) (hr : Fms w hi a c L) (hn : n = L.length) (hB : hi ≤ w.heap.size) (hlen : L.length ≤ 1048576) :
    Calls Try.prog 103 #[.slice a n c] w (FreshR qC 38 4 L w) := by
  subst hn
  have m1 := hr.cap
  have m2 := hr.big
  have HR := Lib.hid hr
  have O0 := Lib.hid (own0Q w w.heap.size (Nat.le_refl _))
  have B0 := Lib.hid ((Below.refl w.heap.size w).alloc (Nat.le_refl _) (.cells #[] 38))
  clear hr
  go_enter Try.func103, Try.ntmps103
  go_wp2
  go_loopw [3, 4] (fun ls i wr => ∃ (k : Nat) (a2 : Option Addr) (c2 : Nat), k ≤ L.length ∧ i = .int .i64 (k : Int) ∧ ls = .slice a2 k c2 ∧ wr.ownsRow w.heap.size 38 4 (.slice a2 k c2) k (flatQ (L.take k)) ∧ Below w.heap.size w wr) (fun _ i _ => L.length - (intOf i).toNat)
  case atStart => exact ⟨0, some ⟨w.heap.size, 0, none⟩, 0, Nat.zero_le _, rfl, rfl, O0.out, B0.out⟩
  case round =>
    obtain ⟨k, a2, c2, hk, rfl, rfl, hown, hb⟩ := hrel
    have HO := Lib.hid hown
    have HB := Lib.hid hb
    clear hown hb B0 O0
    have hsz := HB.out.size
    by_cases hlt : k < L.length
    · obtain ⟨b1, off, rfl, hbh, hcell⟩ := Fms.six (HR.out.below (HB.out.mono hB)) (by omega)
      have hlt' : (k : Int) < (L.length : Int) := by omega
      have hnn : 0 ≤ (k : Int) := by omega
      obtain ⟨p0, p1, p2, p3⟩ := hcell k hlt
      have HT : Hid (L.take (k + 1) = L.take k ++ [qel L k]) := Lib.hid (qel_take hlt)
      clear hcell
      generalize qel L k = X at *
      obtain ⟨u0, u1, u2, u3⟩ := X
      simp only at p0 p1 p2 p3
      obtain ⟨a4, c4, w8, hr3, ho3, hb3, _⟩ := appendQ (w := wr) ⟨u0, u1, u2, u3⟩ (show k = (L.take k).length by rw [List.length_take]; omega) HO.out hsz (by omega) 24
      simp only at hr3
      have R3 := Lib.hid hr3
      have RO := Lib.hid ho3
      have WB := Lib.hid (HB.out.trans hb3)
      clear hr3 ho3 hb3
      go_wp2_with (at_builtin; refine Lib.wpList_append_run _ rfl _ _ _ _ rfl _ _ rfl rfl _ _ R3.out ?_)
      go_roundw
      case rel => exact ⟨k + 1, a4, c4, by omega, by go_num, rfl, by rw [HT.out]; exact RO.out, WB.out⟩
      case measure => simp [intOf]; omega
    · obtain rfl : k = L.length := by omega
      have HZ : Hid (FreshR qC 38 4 L w (.returned (.slice a2 L.length c2)) wr) := Lib.hid (by
        have o := HO.out
        rw [List.take_length] at o
        exact ⟨a2, c2, rfl, o, HB.out⟩)
      go_wp2
      exact bodyPost_ret (v := .slice a2 L.length c2) (by simp [results, Try.results103, go_sem]) rfl HZ.out
def ltTo (L : List Fm) (x : Int) (k : Nat) : List Fm := (L.take k).filter (fun F => decide (x ≤ F.t))
theorem lt_in {L : List Fm} {x : Int} {k : Nat} (hk : k < L.length) (h : x ≤ (qel L k).t) : ltTo L x (k + 1) = ltTo L x k ++ [qel L k] := by
  unfold ltTo
  rw [qel_take hk, List.filter_append]
  simp [h]
theorem lt_out {L : List Fm} {x : Int} {k : Nat} (hk : k < L.length) (h : ¬ x ≤ (qel L k).t) : ltTo L x (k + 1) = ltTo L x k := by
  unfold ltTo
  rw [qel_take hk, List.filter_append]
  simp [h]
theorem lt_len {L : List Fm} {x : Int} {k : Nat} (hk : k ≤ L.length) : (ltTo L x k).length ≤ k := by
  unfold ltTo
  refine Nat.le_trans (List.length_filter_le _ _) ?_
  rw [List.length_take]; omega
set_option maxHeartbeats 2000000 in
set_option maxRecDepth 100000 in
theorem sLeft_any (a : Option Addr) (n c : Nat) (L : List Fm) (x : Int) (hi : Nat) (w : World) (hr : Fms w hi a c L) (hn : n = L.length) (hB : hi ≤ w.heap.size) (hlen : L.length ≤ 1048576) :
    Calls Try.prog 87 #[.slice a n c, .int .i64 x] w (FreshR qC 38 4 (ltTo L x L.length) w) := by
  subst hn
  have m1 := hr.cap
  have m2 := hr.big
  have HR := Lib.hid hr
  have O0 := Lib.hid (own0Q w w.heap.size (Nat.le_refl _))
  have B0 := Lib.hid ((Below.refl w.heap.size w).alloc (Nat.le_refl _) (.cells #[] 38))
  clear hr
  go_enter Try.func87, Try.ntmps87
  go_wp2
  go_loopw [5, 6] (fun ls i wr => ∃ (k m : Nat) (a2 : Option Addr) (c2 : Nat), k ≤ L.length ∧ i = .int .i64 (k : Int) ∧ ls = .slice a2 m c2 ∧ m = (ltTo L x k).length ∧ wr.ownsRow w.heap.size 38 4 (.slice a2 m c2) m (flatQ (ltTo L x k)) ∧ Below w.heap.size w wr) (fun _ i _ => L.length - (intOf i).toNat)
  case atStart => exact ⟨0, 0, some ⟨w.heap.size, 0, none⟩, 0, Nat.zero_le _, rfl, rfl, rfl, O0.out, B0.out⟩
  case round =>
    obtain ⟨k, m, a2, c2, hk, rfl, rfl, hm, hown, hb⟩ := hrel
    have HM := Lib.hid hm
    have HO := Lib.hid hown
    have HB := Lib.hid hb
    have HLE := Lib.hid (lt_len (x := x) hk)
    clear hm hown hb B0 O0
    have hsz := HB.out.size
    by_cases hlt : k < L.length
    · obtain ⟨b1, off, rfl, hbh, hcell⟩ := Fms.six (HR.out.below (HB.out.mono hB)) (by omega)
      have hlt' : (k : Int) < (L.length : Int) := by omega
      have hnn : 0 ≤ (k : Int) := by omega
      obtain ⟨p0, p1, p2, p3⟩ := hcell k hlt
      have X1 := Lib.hid (fun h => lt_in (x := x) hlt h)
      have X2 := Lib.hid (fun h => lt_out (x := x) hlt h)
      clear hcell
      generalize qel L k = X at *
      obtain ⟨u0, u1, u2, u3⟩ := X
      simp only at p0 p1 p2 p3
      by_cases hx : x ≤ u2
      · have HT := Lib.hid (X1.out hx)
        clear X1 X2
        obtain ⟨a4, c4, w8, hr3, ho3, hb3, _⟩ := appendQ (w := wr) ⟨u0, u1, u2, u3⟩ HM.out HO.out hsz (by have := HLE.out; have := HM.out; omega) 24
        simp only at hr3
        have R3 := Lib.hid hr3
        have RO := Lib.hid ho3
        have WB := Lib.hid (HB.out.trans hb3)
        clear hr3 ho3 hb3
        go_wp2_with (at_builtin; refine Lib.wpList_append_run _ rfl _ _ _ _ rfl _ _ rfl rfl _ _ R3.out ?_)
        go_roundw
        case rel => exact ⟨k + 1, m + 1, a4, c4, by omega, by go_num, rfl, by rw [HT.out, List.length_append, ← HM.out]; rfl, by rw [HT.out]; exact RO.out, WB.out⟩
        case measure => simp [intOf]; omega
      · have HT := Lib.hid (X2.out hx)
        clear X1 X2
        go_wp2
        go_roundw
        case rel => exact ⟨k + 1, m, a2, c2, by omega, by go_num, rfl, by rw [HT.out]; exact HM.out, by rw [HT.out]; exact HO.out, HB.out⟩
        case measure => simp [intOf]; omega
    · obtain rfl : k = L.length := by omega
      have HZ : Hid (FreshR qC 38 4 (ltTo L x L.length) w (.returned (.slice a2 m c2)) wr) := Lib.hid (by
        have o := HO.out
        have e := HM.out
        subst e
        exact ⟨a2, c2, rfl, o, HB.out⟩)
      go_wp2
      exact bodyPost_ret (v := .slice a2 m c2) (by simp [results, Try.results87, go_sem]) rfl HZ.out
end Go.Proofs.Ytneolndbhklboaa
