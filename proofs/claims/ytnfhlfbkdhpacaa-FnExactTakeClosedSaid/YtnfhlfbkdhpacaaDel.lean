/- slices.Delete of the first of a row of aggs of the call's own. -/
import Derived.Test.YtnfhlfbkdhpacaaClone2
import Derived.Test.YtnfhlfbkdhpacaaCopyRec
import Derived.Test.YtnfhlfbkdhpacaaHeld3
import Derived.IntWalk
import Derived.Lib.SliceRun
import Derived.Deep.RegionLaw
namespace Go.Proofs.Ytnfhlfbkdhpacaa
open Go.RowKit

theorem clear_one (w : World) (ty : TypeId) (b o cc : Nat) (hc : ∀ j, j < 6 → (w.cell? ⟨b, o + j, none⟩).isSome = true) (hf : ∀ j, j < 6 → w.frozen? ⟨b, o + j, none⟩ = false) :
    (Builtin.clear_ #[26] ty #[.slice (some ⟨b, o, none⟩) 1 cc]).run Try.prog w = .ok (.tuple #[]) (w.setCells b o [.int .i64 0, .int .i64 0, .int .i64 0, .int .i64 0, .int .i64 0, .int .i64 0]) := by
  have hst := run_storeCells_cells (P := Try.prog) b o [.int .i64 0, .int .i64 0, .int .i64 0, .int .i64 0, .int .i64 0, .int .i64 0] 0 w (by simpa using hc) (by simpa using hf) (by intro v hv'; simp at hv'; rw [hv']; rfl)
  simp only [Nat.add_zero] at hst
  have hz : (Builtin.zeroCells (Value.cells (.agg #[.int .i64 0, .int .i64 0, .int .i64 0, .int .i64 0, .int .i64 0, .int .i64 0])) 1).toList = [.int .i64 0, .int .i64 0, .int .i64 0, .int .i64 0, .int .i64 0, .int .i64 0] := by kernel_rfl
  simp [Builtin.clear_, run_underlying Try.underlying26, hz, hst]
set_option maxHeartbeats 4000000 in
set_option maxRecDepth 100000 in
theorem del_x (lo g c m : Nat) (l : List Ag) (w : World) (ho : w.ownsRow lo 37 6 (.slice (some ⟨g, 0, none⟩) l.length c) l.length (flatA l)) (hm : l.length = m + 1) (hlen : l.length ≤ 1048576) :
    Calls Try.prog 29 #[.slice (some ⟨g, 0, none⟩) l.length c, .int .i64 0, .int .i64 1] w fun e w' => e = .returned (.slice (some ⟨g, 0, none⟩) m c) ∧
      w'.ownsRow lo 37 6 (.slice (some ⟨g, 0, none⟩) m c) m (flatA (l.drop 1)) ∧ w.grownBy w' (some g) := by
  obtain ⟨i0, hi0, hz0, hz1, hz2⟩ := info_parts6 infoAgg
  have hc := ownR_cap ho
  obtain ⟨cur, hcur, hsz, htk, hlog⟩ : ∃ cur : List Value, Blk w g 37 cur.toArray ∧ cur.length = c * 6 ∧ cur.take (l.length * 6) = flatA l ∧ lo ≤ g := by
    rcases ho.2 with ⟨hv', _⟩ | ⟨g', cap, cur, hv', hg', hh, hnc, hcm, hcs, htake⟩
    · simp at hv'
    · simp only [Value.slice.injEq, Option.some.injEq, Addr.mk.injEq, and_true, true_and] at hv'
      obtain ⟨rfl, rfl⟩ := hv'
      exact ⟨cur.toList, by simpa [Blk] using hh, by simpa using hcs, htake, hg'⟩
  obtain ⟨news, hnews⟩ : ∃ news, news = flatA (l.drop 1) := ⟨_, rfl⟩
  have hdl : news.length = m * 6 := by rw [hnews, flatA_len, List.length_drop]; omega
  have hd : (flatA l).drop 6 = news := by
    have e : flatA l = flatA (l.take 1) ++ flatA (l.drop 1) := by rw [← flatA_append, List.take_append_drop]
    have h1 : (flatA (l.take 1)).length = 6 := by rw [flatA_len, List.length_take]; omega
    rw [e, hnews, List.drop_append_of_le_length (by omega), List.drop_of_length_le (by omega), List.nil_append]
  have hsrc : ∀ j v, news[j]? = some v → w.drew.cell? ⟨g, 6 + j, none⟩ = some v := fun j v hj => by
    have hjl : j < m * 6 := by have := (List.getElem?_eq_some_iff.1 hj).1; omega
    rw [World.cell?_drew, hcur.cell]
    rw [← hd, List.getElem?_drop, ← htk, List.getElem?_take, if_pos (by omega)] at hj
    simpa using hj
  have hspare : ∀ j, j < news.length → (w.drew.cell? ⟨g, 0 + 0 * 6 + j, none⟩).isSome = true ∧ w.drew.frozen? ⟨g, 0 + 0 * 6 + j, none⟩ = false := fun j hj => by
    refine ⟨?_, hcur.drew.frozen _⟩
    rw [World.cell?_drew, hcur.cell]
    simp [show j < cur.length by omega]
  have k1 := blk_setCells g news 0 w.drew cur hcur.drew (by omega)
  have G1 := grown_setCells g news 0 w.drew
  have hl1 := over_len (cur := cur) (vs := news) (o := 0) (by omega)
  obtain ⟨W1, hW1⟩ : ∃ W1, W1 = w.drew.setCells g 0 news := ⟨_, rfl⟩
  rw [← hW1] at k1 G1
  have hcl : ∀ ty cc, (Builtin.clear_ #[26] ty #[.slice (some ⟨g, m * 6, none⟩) 1 cc]).run Try.prog W1 = .ok (.tuple #[]) (W1.setCells g (m * 6) [.int .i64 0, .int .i64 0, .int .i64 0, .int .i64 0, .int .i64 0, .int .i64 0]) := fun ty cc =>
    clear_one W1 ty g (m * 6) cc (fun j hj => by rw [k1.cell]; simp [show m * 6 + j < (over cur 0 news).length by omega]) (fun j hj => k1.frozen _)
  have k2 := blk_setCells g [.int .i64 0, .int .i64 0, .int .i64 0, .int .i64 0, .int .i64 0, .int .i64 0] (m * 6) W1 _ k1 (by simp; omega)
  have G2 := grown_setCells g [.int .i64 0, .int .i64 0, .int .i64 0, .int .i64 0, .int .i64 0, .int .i64 0] (m * 6) W1
  have HP : Hid ((W1.setCells g (m * 6) [.int .i64 0, .int .i64 0, .int .i64 0, .int .i64 0, .int .i64 0, .int .i64 0]).ownsRow lo 37 6 (.slice (some ⟨g, 0, none⟩) m c) m (flatA (l.drop 1)) ∧ w.grownBy (W1.setCells g (m * 6) [.int .i64 0, .int .i64 0, .int .i64 0, .int .i64 0, .int .i64 0, .int .i64 0]) (some g)) := by
    refine Lib.hid ⟨⟨by rw [← hnews]; exact hdl, .inr ⟨g, c, _, rfl, hlog, k2, by omega, by unfold maxLen; omega, ?_, ?_⟩⟩, grown_trans (grown_trans (show w.grownBy w.drew _ from ⟨rfl, rfl, rfl, Nat.le_refl _, fun _ _ _ => rfl⟩) G1) G2⟩
    · rw [List.size_toArray, over_len (by simp; omega), hl1, hsz]
    · show (over (over cur 0 news) (m * 6) [.int .i64 0, .int .i64 0, .int .i64 0, .int .i64 0, .int .i64 0, .int .i64 0]).take (m * 6) = _
      rw [over, List.append_assoc, List.take_append_of_le_length (by rw [List.length_take]; omega), List.take_take, Nat.min_self, over, List.take_zero, List.nil_append, List.take_append_of_le_length (by omega), ← hnews]
      exact List.take_of_length_le (by omega)
  have hones : ∀ u ∈ news, u.oneCell' = true := by rw [hnews]; exact flatA_ones _
  have X1 := Lib.hid hW1
  have HS := Lib.hid hsrc
  have HSP := Lib.hid hspare
  have HON := Lib.hid hones
  have HDL := Lib.hid hdl
  have HCL := Lib.hid hcl
  have HM := Lib.hid hm
  obtain ⟨hc1, hc2⟩ := hc
  clear hcur hsz htk hlog hnews hd hsrc hspare k1 G1 hl1 hcl k2 G2 hones hdl hW1 ho
  have ec : ∀ k : Nat, k < c → ¬ c = k := fun k h e => by omega
  have n1 : ¬ c = 0 := by omega
  have n2 : ¬ c = m := by omega
  obtain ⟨A, hA, hsrcA⟩ : ∃ A : Addr, (if c = 1 then (some ⟨g, 0, none⟩ : Option Addr) else some ⟨g, 6, none⟩) = some A ∧ Hid (∀ t u, news[t]? = some u → w.drew.cell? (A.add t) = some u) := by
    by_cases h : c = 1
    · refine ⟨⟨g, 0, none⟩, by simp [h], Lib.hid (fun t u hu => ?_)⟩
      have h0 : news.length = 0 := by rw [HDL.out]; omega
      rw [List.length_eq_zero_iff.1 h0] at hu
      simp at hu
    · refine ⟨⟨g, 6, none⟩, by simp [h], Lib.hid (fun t u hu => ?_)⟩
      have e1 : (⟨g, 6, none⟩ : Addr).add t = ⟨g, 6 + t, none⟩ := by by_cases h0 : t = 0 <;> simp [Addr.add, h0]
      rw [e1]
      exact HS.out t u hu
  have hmc : m + 1 ≤ c := by omega
  have hmb : m + 1 ≤ 1048576 := by omega
  have f1 : (1 : Int) ≤ (m : Int) + 1 := by omega
  rw [hm]
  clear hm hc1 hlen ec hz2 hz0
  go_enter Try.func29, Try.ntmps29
  go_wp2_with fail
  go_region_law (refine step_append_room rfl (.tmp 22) (.tmp 25) 26 rfl 37 i0 6 Try.underlying26 hi0 hz1 g 0 0 c (by simp [Act.eval, Act.put]) A m (c - 1) news (by simp [Act.eval, Act.put]) HDL.out hsrcA.out HON.out (by omega) HSP.out ?_; rw [← X1.out])
  have hcl0 := HCL.out 0 (c - m)
  go_wp2
  go_ret
  exact ⟨rfl, HP.out⟩
end Go.Proofs.Ytnfhlfbkdhpacaa
