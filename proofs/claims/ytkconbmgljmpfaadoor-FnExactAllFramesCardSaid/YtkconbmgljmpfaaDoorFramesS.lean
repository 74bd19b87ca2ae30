/- Contracts of the laws' own helpers over lists of frames. -/
import Derived.Test.YtkconbmgljmpfaaDoorPlainAll
import Derived.Test.YtkconbmgljmpfaaDoorLawS
import Derived.Test.YtkconbmgljmpfaaDoorRow
import Derived.Deep.RegionWith
namespace Go.Proofs.YtkconbmgljmpfaaDoor
open Go.RowKit

theorem own_blockF {w : World} {lo n c : Nat} {T : TypeId} {a : Option Addr} {xs : List Value} (h : w.ownsRow lo T 4 (.slice a n c) n xs) (hn : 1 ≤ n) : ∃ g, a = some ⟨g, 0, none⟩ ∧ lo ≤ g ∧ g < w.heap.size := by
  rcases h.2 with ⟨hv, h1⟩ | ⟨g, cap, cur, hv, hlo, hh, _⟩
  · omega
  · simp only [Value.slice.injEq] at hv
    exact ⟨g, hv.1, hlo, (Array.getElem?_eq_some_iff.1 hh).1⟩
theorem own_capF {w : World} {lo n c : Nat} {T : TypeId} {a : Option Addr} {xs : List Value} (h : w.ownsRow lo T 4 (.slice a n c) n xs) : n ≤ c ∧ c ≤ 9223372036854775807 := by
  rcases h.2 with ⟨hv, h1⟩ | ⟨g, cap, cur, hv, hlo, hh, h1, h2, _⟩
  · simp only [Value.slice.injEq] at hv
    omega
  · simp only [Value.slice.injEq] at hv
    unfold maxLen at h2
    omega
/-- The four cells of the frame at j. -/
theorem own_four {w : World} {lo g c : Nat} {T : TypeId} {l : List Fr} (h : w.ownsRow lo T 4 (.slice (some ⟨g, 0, none⟩) l.length c) l.length (flatF l)) (j : Nat) (hj : j < l.length) :
    w.cell? ⟨g, j * 4, none⟩ = some (.int .i64 (fel l j).k) ∧ w.cell? ⟨g, j * 4 + 1, none⟩ = some (.int .i64 (fel l j).y) ∧ w.cell? ⟨g, j * 4 + 2, none⟩ = some (.int .i64 (fel l j).t) ∧ w.cell? ⟨g, j * 4 + 3, none⟩ = some (.int .i64 (fel l j).v) := by
  have hf := flatF_at l j hj
  exact ⟨(h.cellAt (j * 4) (by omega)).trans hf.1, (h.cellAt (j * 4 + 1) (by omega)).trans hf.2.1, (h.cellAt (j * 4 + 2) (by omega)).trans hf.2.2.1, (h.cellAt (j * 4 + 3) (by omega)).trans hf.2.2.2⟩

set_option maxRecDepth 100000 in
set_option maxHeartbeats 2000000 in
theorem eqFrames_any (a1 a2 : Option Addr) (c1 c2 lo1 lo2 : Nat) (l : List Fr) (w : World) (h1 : w.ownsRow lo1 36 4 (.slice a1 l.length c1) l.length (flatF l)) (h2 : w.ownsRow lo2 36 4 (.slice a2 l.length c2) l.length (flatF l)) :
    Calls Tryd.prog 33 #[.slice a1 l.length c1, .slice a2 l.length c2] w fun e w' => e = .returned (.bool true) ∧ Below w.heap.size w w' := by
  have hc1 := own_capF h1
  have hc2 := own_capF h2
  have H1 := Lib.hid h1
  have H2 := Lib.hid h2
  clear h1 h2
  go_enter Tryd.func33, Tryd.ntmps33
  go_wp2
  go_loopw [5] (fun i wr => ∃ j : Nat, j ≤ l.length ∧ i = .int .i64 j ∧ Below w.heap.size w wr) (fun i _ => l.length - (intOf i).toNat)
  case atStart => exact ⟨0, Nat.zero_le _, rfl, Below.refl _ _⟩
  case round =>
    obtain ⟨j, hj, rfl, hb⟩ := hrel
    have hsz := hb.size
    by_cases hlt : j < l.length
    · obtain ⟨g1, rfl, _, _⟩ := own_blockF H1.out (by omega)
      obtain ⟨g2, rfl, _, _⟩ := own_blockF H2.out (by omega)
      obtain ⟨z0, z1, z2, z3⟩ := own_four (owns_below H1.out hb) j hlt
      obtain ⟨y0, y1, y2, y3⟩ := own_four (owns_below H2.out hb) j hlt
      generalize fel l j = f at z0 z1 z2 z3 y0 y1 y2 y3
      obtain ⟨k, y, t, v⟩ := f
      simp only at z0 z1 z2 z3 y0 y1 y2 y3
      have HB := Lib.hid hb
      clear hb
      go_wp2_with fail
      go_region_with (go_at_call 25; refine (eqFrame_any k y t v _).mono ?_; rintro e w3 ⟨rfl, hb⟩; have HB3 := Lib.hid ((HB.out.drew).trans (hb.mono hsz)); clear hb)
      all_goals
        clear z0 z1 z2 z3 y0 y1 y2 y3
        go_wp2
        go_roundw
        case rel => exact ⟨j + 1, by omega, by go_num, HB3.out⟩
        case measure => simp [intOf]; omega
    · obtain rfl : j = l.length := by omega
      have HB := Lib.hid hb
      clear hb
      go_wp2
      go_ret
      exact ⟨rfl, HB.out⟩
/-- The marks of n frames from m on. -/
def markF (m i : Nat) : Fr := ⟨((m + 4 * i : Nat) : Int), ((m + 4 * i + 1 : Nat) : Int), ((m + 4 * i + 2 : Nat) : Int), ((m + 4 * i + 3 : Nat) : Int)⟩
def marksF (m n : Nat) : List Fr := (List.range n).map (markF m)
theorem marksF_len (m n : Nat) : (marksF m n).length = n := by simp [marksF]
theorem marksF_at (m n i : Nat) (hi : i < n) : fel (marksF m n) i = markF m i := by simp [marksF, fel, List.getD, hi]
def markToF (m : Nat) (l : List Fr) (j : Nat) : List Fr := marksF m j ++ l.drop j
theorem markToF_zero (m : Nat) (l : List Fr) : markToF m l 0 = l := by simp [markToF, marksF]
theorem markToF_len (m : Nat) (l : List Fr) (j : Nat) (hj : j ≤ l.length) : (markToF m l j).length = l.length := by simp [markToF, marksF_len]; omega
theorem markToF_all (m : Nat) (l : List Fr) : markToF m l l.length = marksF m l.length := by simp [markToF]
theorem markToF_step (m : Nat) (l : List Fr) (j : Nat) (hj : j < l.length) :
    ((((flatF (markToF m l j)).set (j * 4) (.int .i64 ((m + 4 * j : Nat) : Int))).set (j * 4 + 1) (.int .i64 ((m + 4 * j + 1 : Nat) : Int))).set (j * 4 + 2) (.int .i64 ((m + 4 * j + 2 : Nat) : Int))).set (j * 4 + 3) (.int .i64 ((m + 4 * j + 3 : Nat) : Int)) = flatF (markToF m l (j + 1)) := by
  have e1 : marksF m (j + 1) = marksF m j ++ [markF m j] := by simp [marksF, List.range_succ]
  have e2 : l.drop j = fel l j :: l.drop (j + 1) := by
    rw [List.drop_eq_getElem_cons hj]
    simp [fel, List.getD, hj]
  have hl : (flatF (marksF m j)).length = j * 4 := by rw [flatF_len, marksF_len]
  unfold markToF
  rw [e1, e2, flatF_append, flatF_append, flatF_append]
  have e3 : ∀ (f : Fr) (r : List Fr), flatF (f :: r) = [.int .i64 f.k, .int .i64 f.y, .int .i64 f.t, .int .i64 f.v] ++ flatF r := fun _ _ => rfl
  rw [e3, e3]
  rw [List.set_append_right _ _ (by omega), List.set_append_right _ _ (by omega), List.set_append_right _ _ (by omega), List.set_append_right _ _ (by omega), hl]
  have i0 : j * 4 - j * 4 = 0 := by omega
  have i1 : j * 4 + 1 - j * 4 = 1 := by omega
  have i2 : j * 4 + 2 - j * 4 = 2 := by omega
  have i3 : j * 4 + 3 - j * 4 = 3 := by omega
  rw [i0, i1, i2, i3]
  simp [flatF_nil, markF]
/-- Marking frames leaves all that lies below the row's own base, and every row of another block. -/
structure MarkedF (T : TypeId) (lo : Nat) (a : Option Addr) (c m n : Nat) (w w' : World) : Prop where
  own : w'.ownsRow lo T 4 (.slice a n c) n (flatF (marksF m n))
  below : Below lo w w'
  grown : w.grownBy w' (Value.slice a n c).ownBlock
set_option maxRecDepth 100000 in
set_option maxHeartbeats 2000000 in
theorem markFrames_m (a : Option Addr) (n c m : Nat) (M : Int) (l : List Fr) (lo : Nat) (w : World) (hr : w.ownsRow lo 36 4 (.slice a n c) n (flatF l)) (hM : M = (m : Int)) (hn : n = l.length) (hlo : lo ≤ w.heap.size) (hlen : n ≤ 1048576) (hm : m ≤ 1073741824) :
    Calls Tryd.prog 35 #[.slice a n c, .int .i64 M] w fun e w' => e = .returned (.int .i64 (M + 4 * (n : Int))) ∧ MarkedF 36 lo a c m n w w' := by
  subst hM
  subst hn
  have hc := own_capF hr
  have HR := Lib.hid hr
  clear hr
  go_enter Tryd.func35, Tryd.ntmps35
  go_wp2
  go_loopw [1, 5] (fun k i wr => ∃ j : Nat, j ≤ l.length ∧ i = .int .i64 j ∧ k = .int .i64 ((m : Int) + 4 * (j : Int)) ∧ wr.ownsRow lo 36 4 (.slice a l.length c) l.length (flatF (markToF m l j)) ∧ w.grownBy wr (Value.slice a l.length c).ownBlock) (fun _ i _ => l.length - (intOf i).toNat)
  case atStart => exact ⟨0, Nat.zero_le _, rfl, by simp, by rw [markToF_zero]; exact HR.out, World.grownBy.refl _ _⟩
  case round =>
    obtain ⟨j, hj, rfl, rfl, hown, hg⟩ := hrel
    by_cases hlt : j < l.length
    · obtain ⟨g, rfl, _, _⟩ := own_blockF hown (by omega)
      have e0 : ((m + 4 * j : Nat) : Int) = (m : Int) + 4 * (j : Int) := by omega
      have e1 : ((m + 4 * j + 1 : Nat) : Int) = (m : Int) + 4 * (j : Int) + 1 := by omega
      have e2 : ((m + 4 * j + 2 : Nat) : Int) = (m : Int) + 4 * (j : Int) + 1 + 1 := by omega
      have e3 : ((m + 4 * j + 3 : Nat) : Int) = (m : Int) + 4 * (j : Int) + 1 + 1 + 1 := by omega
      have hstep := markToF_step m l j hlt
      rw [e0, e1, e2, e3] at hstep
      have hll := flatF_len (markToF m l j)
      rw [markToF_len m l j hj] at hll
      have s0 := hown.stored (j * 4) (.int .i64 ((m : Int) + 4 * (j : Int)))
      have s1 := s0.1.stored (j * 4 + 1) (.int .i64 ((m : Int) + 4 * (j : Int) + 1))
      have s2 := s1.1.stored (j * 4 + 2) (.int .i64 ((m : Int) + 4 * (j : Int) + 1 + 1))
      have s3 := s2.1.stored (j * 4 + 3) (.int .i64 ((m : Int) + 4 * (j : Int) + 1 + 1 + 1))
      rw [hstep] at s3
      obtain ⟨u0, c0⟩ : ∃ u, wr.cell? ⟨g, j * 4, none⟩ = some u := ⟨_, (hown.cellAt (j * 4) (by omega)).trans (List.getElem?_eq_getElem (by omega))⟩
      obtain ⟨u1, c1⟩ : ∃ u, (wr.setCell ⟨g, j * 4, none⟩ (.int .i64 ((m : Int) + 4 * (j : Int)))).cell? ⟨g, j * 4 + 1, none⟩ = some u := ⟨_, (s0.1.cellAt (j * 4 + 1) (by omega)).trans (List.getElem?_eq_getElem (by rw [List.length_set]; omega))⟩
      obtain ⟨u2, c2⟩ : ∃ u, ((wr.setCell ⟨g, j * 4, none⟩ (.int .i64 ((m : Int) + 4 * (j : Int)))).setCell ⟨g, j * 4 + 1, none⟩ (.int .i64 ((m : Int) + 4 * (j : Int) + 1))).cell? ⟨g, j * 4 + 2, none⟩ = some u := ⟨_, (s1.1.cellAt (j * 4 + 2) (by omega)).trans (List.getElem?_eq_getElem (by rw [List.length_set, List.length_set]; omega))⟩
      obtain ⟨u3, c3⟩ : ∃ u, (((wr.setCell ⟨g, j * 4, none⟩ (.int .i64 ((m : Int) + 4 * (j : Int)))).setCell ⟨g, j * 4 + 1, none⟩ (.int .i64 ((m : Int) + 4 * (j : Int) + 1))).setCell ⟨g, j * 4 + 2, none⟩ (.int .i64 ((m : Int) + 4 * (j : Int) + 1 + 1))).cell? ⟨g, j * 4 + 3, none⟩ = some u := ⟨_, (s2.1.cellAt (j * 4 + 3) (by omega)).trans (List.getElem?_eq_getElem (by rw [List.length_set, List.length_set, List.length_set]; omega))⟩
      have f0 := hown.frozenAt (j * 4)
      have f1 := s0.1.frozenAt (j * 4 + 1)
      have f2 := s1.1.frozenAt (j * 4 + 2)
      have f3 := s2.1.frozenAt (j * 4 + 3)
      have G0 := Lib.hid (grown_trans (grown_trans (grown_trans (grown_trans hg s0.2) s1.2) s2.2) s3.2)
      have S3 := Lib.hid s3.1
      clear hstep hll s0 s1 s2 s3 hown hg e0 e1 e2 e3
      go_wp2
      go_roundw
      case rel => exact ⟨j + 1, by omega, by go_num, by go_num, S3.out, G0.out⟩
      case measure => simp [intOf]; omega
    · obtain rfl : j = l.length := by omega
      rw [markToF_all] at hown
      have HO := Lib.hid hown
      have HG := Lib.hid hg
      have HP : Hid (MarkedF 36 lo a c m l.length w wr) := ⟨HO.out, ⟨HG.out.os, HG.out.tape, HG.out.output, HG.out.size, fun k hk => HG.out.block k (by omega) (fun e => by have := (HO.out.lt k e.symm).1; omega)⟩, HG.out⟩
      clear hown hg
      go_wp2
      go_ret
      exact ⟨rfl, HP.out⟩
set_option maxRecDepth 100000 in
set_option maxHeartbeats 2000000 in
theorem heldFrames_m (a : Option Addr) (n c m : Nat) (M : Int) (lo : Nat) (w : World) (hr : w.ownsRow lo 36 4 (.slice a n c) n (flatF (marksF m n))) (hM : M = (m : Int)) (hlen : n ≤ 1048576) (hm : m ≤ 1073741824) :
    Calls Tryd.prog 36 #[.slice a n c, .int .i64 M] w fun e w' => e = .returned (.int .i64 (M + 4 * (n : Int))) ∧ Below w.heap.size w w' := by
  subst hM
  have hc := own_capF hr
  have HR := Lib.hid hr
  clear hr
  go_enter Tryd.func36, Tryd.ntmps36
  go_wp2
  go_loop [1, 5] (fun k i => ∃ j : Nat, j ≤ n ∧ i = .int .i64 j ∧ k = .int .i64 ((m : Int) + 4 * (j : Int))) (fun _ i => n - (intOf i).toNat)
  case atStart => exact ⟨0, Nat.zero_le _, rfl, by simp⟩
  case round =>
    obtain ⟨j, hj, rfl, rfl⟩ := hrel
    by_cases hlt : j < n
    · obtain ⟨g, rfl, _, _⟩ := own_blockF HR.out (by omega)
      have ho : w.ownsRow lo 36 4 (.slice (some ⟨g, 0, none⟩) (marksF m n).length c) (marksF m n).length (flatF (marksF m n)) := by rw [marksF_len]; exact HR.out
      obtain ⟨z0, z1, z2, z3⟩ := own_four ho j (by rw [marksF_len]; exact hlt)
      rw [marksF_at m n j hlt] at z0 z1 z2 z3
      have e0 : (markF m j).k = (m : Int) + 4 * (j : Int) := by simp [markF]
      have e1 : (markF m j).y = (m : Int) + 4 * (j : Int) + 1 := by simp [markF]
      have e2 : (markF m j).t = (m : Int) + 4 * (j : Int) + 1 + 1 := by simp [markF]; omega
      have e3 : (markF m j).v = (m : Int) + 4 * (j : Int) + 1 + 1 + 1 := by simp [markF]; omega
      rw [e0] at z0
      rw [e1] at z1
      rw [e2] at z2
      rw [e3] at z3
      have d0 : (((m : Int) + 4 * (j : Int)) != ((m : Int) + 4 * (j : Int))) = false := by simp
      have d1 : (((m : Int) + 4 * (j : Int) + 1) != ((m : Int) + 4 * (j : Int) + 1)) = false := by simp
      have d2 : (((m : Int) + 4 * (j : Int) + 1 + 1) != ((m : Int) + 4 * (j : Int) + 1 + 1)) = false := by simp
      have d3 : (((m : Int) + 4 * (j : Int) + 1 + 1 + 1) != ((m : Int) + 4 * (j : Int) + 1 + 1 + 1)) = false := by simp
      clear ho e0 e1 e2 e3
      go_wp2
      go_round
      case rel => exact ⟨j + 1, by omega, by go_num, by go_num⟩
      case measure => simp [intOf]; omega
    · obtain rfl : j = n := by omega
      go_wp2
      go_ret
      exact ⟨rfl, Below.refl _ _⟩
end Go.Proofs.YtkconbmgljmpfaaDoor
