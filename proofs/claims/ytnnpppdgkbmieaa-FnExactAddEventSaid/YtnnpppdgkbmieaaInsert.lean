/- The contract of slices.Insert over a row of aggs of the call's own, one agg put in. -/
import Derived.Test.YtnnpppdgkbmieaaClone2
import Derived.Test.YtnnpppdgkbmieaaCopyRec
import Derived.Test.YtnnpppdgkbmieaaHeld3
import Derived.Lib.Overlaps
import Derived.Laws.Externs
import Derived.Shelf.Spec.SlicesInsert
import Derived.Deep.RegionLaw
import Derived.Laws.NewBlocks
namespace Go.Proofs.Ytnnpppdgkbmieaa
open Go.RowKit

/-- The list with S put in at i. -/
def putIn (l : List Ag) (i : Nat) (S : Ag) : List Ag := l.take i ++ S :: l.drop i
theorem putIn_len {l : List Ag} {i : Nat} {S : Ag} (h : i ≤ l.length) : (putIn l i S).length = l.length + 1 := by simp [putIn]; omega
theorem flatA_cons (S : Ag) (l : List Ag) : flatA (S :: l) = aC S ++ flatA l := rfl
theorem flatA_takes (l : List Ag) (i : Nat) (hi : i ≤ l.length) : (flatA l).take (i * 6) = flatA (l.take i) ∧ (flatA l).drop (i * 6) = flatA (l.drop i) := by
  have e : flatA l = flatA (l.take i) ++ flatA (l.drop i) := by rw [← flatA_append, List.take_append_drop]
  have hl : (flatA (l.take i)).length = i * 6 := by rw [flatA_len, List.length_take, Nat.min_eq_left hi]
  rw [e]
  exact ⟨by rw [List.take_append_of_le_length (by omega), List.take_of_length_le (by omega)], by rw [List.drop_append_of_le_length (by omega), List.drop_of_length_le (by omega), List.nil_append]⟩
/-- What Insert hands back. -/
def InsPost (lo : Nat) (l : List Ag) (i : Nat) (S : Ag) (row : Option Nat) (w : World) (e : Ending) (w' : World) : Prop :=
  ∃ a c, e = .returned (.slice a (l.length + 1) c) ∧ w'.ownsRow lo 44 6 (.slice a (l.length + 1) c) (l.length + 1) (flatA (putIn l i S)) ∧ w.grownBy w' row ∧ Below lo w w'
theorem blk_shape {w : World} {g k : Nat} {t : TypeId} {cs : Array Value} (h : Blk w g t cs) (hk : cs.size = k) : w.shape? g = some (t, k) := by
  unfold Blk at h
  simp [World.shape?, h, hk]
theorem newsV {w : World} {vb : Nat} {u0 u1 u2 u3 u4 u5 : Int} (hv : Blk w vb 44 #[.int .i64 u0, .int .i64 u1, .int .i64 u2, .int .i64 u3, .int .i64 u4, .int .i64 u5]) : ∀ (j : Nat) (u : Value), (aC ⟨u0, u1, u2, u3, u4, u5⟩)[j]? = some u → w.cell? ((⟨vb, 0, none⟩ : Addr).add j) = some u := fun j u hj => by
  have hadd : (⟨vb, 0, none⟩ : Addr).add j = ⟨vb, j, none⟩ := by unfold Addr.add; split <;> simp_all
  rw [hadd, hv.cell j]
  simpa [aC] using hj
set_option maxHeartbeats 4000000 in
set_option maxRecDepth 100000 in
/-- At the end. -/
theorem insert_end (lo : Nat) (a : Option Addr) (c : Nat) (l : List Ag) (u0 u1 u2 u3 u4 u5 : Int) (vb : Nat) (w : World) (ho : w.ownsRow lo 44 6 (.slice a l.length c) l.length (flatA l)) (hv : Blk w vb 44 #[.int .i64 u0, .int .i64 u1, .int .i64 u2, .int .i64 u3, .int .i64 u4, .int .i64 u5]) (hlo : lo ≤ w.heap.size) (hlen : l.length ≤ 1048576) :
    Calls Try.prog 56 #[.slice a l.length c, .int .i64 l.length, .slice (some ⟨vb, 0, none⟩) 1 1] w (InsPost lo l l.length ⟨u0, u1, u2, u3, u4, u5⟩ (Value.slice a l.length c).ownBlock w) := by
  obtain ⟨i0, hi0, hz0, hz1, hz2⟩ := info_parts6 infoAgg
  have hc := ownR_cap ho
  have HO := Lib.hid ho
  have HPI : Hid (flatA (putIn l l.length ⟨u0, u1, u2, u3, u4, u5⟩) = flatA l ++ aC ⟨u0, u1, u2, u3, u4, u5⟩) := Lib.hid (by rw [putIn, List.take_length, List.drop_length, flatA_append]; rfl)
  have HV := Lib.hid (newsV hv)
  clear ho hv
  by_cases hcap : c = l.length
  · subst hcap

    go_enter Try.func56, Try.ntmps56
    go_wp2_with (at_builtin; refine wpList_append_own _ rfl _ _ 28 rfl lo 44 i0 (.agg #[.int .i64 0, .int .i64 0, .int .i64 0, .int .i64 0, .int .i64 0, .int .i64 0]) 6 48 Try.underlying28 hi0 hz0 hz1 hz2 rfl (by decide) _ _ _ rfl HO.out ⟨vb, 0, none⟩ 1 1 (aC ⟨u0, u1, u2, u3, u4, u5⟩) rfl rfl HV.out (aC_ones _) ?c3 ?c4 ?c5 ?_)
    case c3 => unfold maxLen; omega
    case c4 => omega
    case c5 => exact hlo
    intro v' w1 hown' hg _
    have hown2 : w1.ownsRow lo 44 6 v' (l.length + 1) (flatA (putIn l l.length ⟨u0, u1, u2, u3, u4, u5⟩)) := by rw [HPI.out]; exact hown'
    obtain ⟨a2, c2, rfl⟩ := ownsR_shape hown2
    have HP : Hid (InsPost lo l l.length ⟨u0, u1, u2, u3, u4, u5⟩ (Value.slice a l.length l.length).ownBlock w (.returned (.slice a2 (l.length + 1) c2)) w1) := ⟨a2, c2, rfl, hown2, hg, below_own HO.out hg hlo⟩
    clear hown' hown2 hg
    go_wp2
    go_ret
    exact HP.out
  · have hcap2 : ¬ (l.length = c) := fun h => hcap h.symm

    go_enter Try.func56, Try.ntmps56
    go_wp2_with (at_builtin; refine wpList_append_own _ rfl _ _ 28 rfl lo 44 i0 (.agg #[.int .i64 0, .int .i64 0, .int .i64 0, .int .i64 0, .int .i64 0, .int .i64 0]) 6 48 Try.underlying28 hi0 hz0 hz1 hz2 rfl (by decide) _ _ _ rfl HO.out ⟨vb, 0, none⟩ 1 1 (aC ⟨u0, u1, u2, u3, u4, u5⟩) rfl rfl HV.out (aC_ones _) ?c3 ?c4 ?c5 ?_)
    case c3 => unfold maxLen; omega
    case c4 => omega
    case c5 => exact hlo
    intro v' w1 hown' hg _
    have hown2 : w1.ownsRow lo 44 6 v' (l.length + 1) (flatA (putIn l l.length ⟨u0, u1, u2, u3, u4, u5⟩)) := by rw [HPI.out]; exact hown'
    obtain ⟨a2, c2, rfl⟩ := ownsR_shape hown2
    have HP : Hid (InsPost lo l l.length ⟨u0, u1, u2, u3, u4, u5⟩ (Value.slice a l.length c).ownBlock w (.returned (.slice a2 (l.length + 1) c2)) w1) := ⟨a2, c2, rfl, hown2, hg, below_own HO.out hg hlo⟩
    clear hown' hown2 hg
    go_wp2
    go_ret
    exact HP.out
set_option maxHeartbeats 4000000 in
set_option maxRecDepth 100000 in
/-- Within, and there is room: in place. -/
theorem insert_shift (lo : Nat) (g c i : Nat) (l : List Ag) (u0 u1 u2 u3 u4 u5 : Int) (vb : Nat) (w : World) (ho : w.ownsRow lo 44 6 (.slice (some ⟨g, 0, none⟩) l.length c) l.length (flatA l)) (hv : Blk w vb 44 #[.int .i64 u0, .int .i64 u1, .int .i64 u2, .int .i64 u3, .int .i64 u4, .int .i64 u5]) (hne : vb ≠ g) (hi : i < l.length) (hroom : l.length + 1 ≤ c) (hlo : lo ≤ w.heap.size) (hlen : l.length ≤ 1048576) :
    Calls Try.prog 56 #[.slice (some ⟨g, 0, none⟩) l.length c, .int .i64 i, .slice (some ⟨vb, 0, none⟩) 1 1] w (InsPost lo l i ⟨u0, u1, u2, u3, u4, u5⟩ (some g) w) := by
  obtain ⟨i0, hi0, hz0, hz1, hz2⟩ := info_parts6 infoAgg
  have hc := ownR_cap ho
  obtain ⟨cur, hcur, hsz, htk, hlog⟩ : ∃ cur : List Value, Blk w g 44 cur.toArray ∧ cur.length = c * 6 ∧ cur.take (l.length * 6) = flatA l ∧ lo ≤ g := by
    rcases ho.2 with ⟨hv', _⟩ | ⟨g', cap, cur, hv', hg', hh, hnc, hcm, hcs, htake⟩
    · simp at hv'
    · simp only [Value.slice.injEq, Option.some.injEq, Addr.mk.injEq, and_true, true_and] at hv'
      obtain ⟨rfl, rfl⟩ := hv'
      exact ⟨cur.toList, by simpa [Blk] using hh, by simpa using hcs, htake, hg'⟩
  have HSZ : (Try.prog.info? 44).map (·.size) = some 6 := by rw [hi0]; simp [hz1]
  have hdl : (flatA (l.drop i)).length = (l.length - i) * 6 := by rw [flatA_len, List.length_drop]
  have hd := (flatA_takes l i (by omega))
  -- the cells as they stand
  have hat : ∀ j, j < c * 6 → ∃ u, w.cell? ⟨g, j, none⟩ = some u := fun j hj => ⟨cur[j]'(by omega), by rw [hcur.cell]; simp [show j < cur.length by omega]⟩
  have hsrc1 : ∀ j v, (flatA (l.drop i))[j]? = some v → w.drew.cell? ((⟨g, i * 6, none⟩ : Addr).add j) = some v := fun j v hj => by
    have hjl : j < (l.length - i) * 6 := by have := (List.getElem?_eq_some_iff.1 hj).1; omega
    have e1 : (⟨g, i * 6, none⟩ : Addr).add j = ⟨g, i * 6 + j, none⟩ := by by_cases h0 : j = 0 <;> simp [Addr.add, h0]
    rw [e1, World.cell?_drew, hcur.cell]
    rw [← hd.2, List.getElem?_drop, ← htk, List.getElem?_take] at hj
    rw [if_pos (by omega)] at hj
    simpa using hj
  have hcp1 : ∀ ty dc sc, (Builtin.copy_ #[28, 28] ty #[.slice (some ⟨g, (i + 1) * 6, none⟩) (l.length - i) dc, .slice (some ⟨g, i * 6, none⟩) (l.length + 1 - i) sc]).run Try.prog w.drew = .ok (goInt (l.length - i : Nat)) (w.drew.setCells g ((i + 1) * 6) (flatA (l.drop i))) := fun ty dc sc =>
    run_copy_recs w.drew _ _ ty 44 g ((i + 1) * 6) (l.length - i) dc ⟨g, i * 6, none⟩ (l.length + 1 - i) sc 6 (l.length - i) (flatA (l.drop i)) Try.underlying28 HSZ (by simp only [Nat.min_def]; split <;> omega) hdl hsrc1
      (fun j hj => by obtain ⟨u, hu⟩ := hat ((i + 1) * 6 + j) (by omega); rw [World.cell?_drew, hu]; rfl) (fun j hj => hcur.frozen _) (flatA_ones _)
  have k1 := blk_setCells g (flatA (l.drop i)) ((i + 1) * 6) w.drew cur hcur (by omega)
  have G1 := grown_setCells g (flatA (l.drop i)) ((i + 1) * 6) w.drew
  have hv1 : Blk (w.drew.setCells g ((i + 1) * 6) (flatA (l.drop i))) vb 44 #[.int .i64 u0, .int .i64 u1, .int .i64 u2, .int .i64 u3, .int .i64 u4, .int .i64 u5] := hv.drew.grown G1 (by simpa using hne)
  generalize hW1 : w.drew.setCells g ((i + 1) * 6) (flatA (l.drop i)) = W1 at hcp1 k1 G1 hv1
  clear hW1
  have hl1 := over_len (cur := cur) (vs := flatA (l.drop i)) (o := (i + 1) * 6) (by omega)
  have hcp2 : ∀ ty dc, (Builtin.copy_ #[28, 28] ty #[.slice (some ⟨g, i * 6, none⟩) (l.length + 1 - i) dc, .slice (some ⟨vb, 0, none⟩) 1 1]).run Try.prog W1 = .ok (goInt (1 : Nat)) (W1.setCells g (i * 6) (aC ⟨u0, u1, u2, u3, u4, u5⟩)) := fun ty dc =>
    run_copy_recs W1 _ _ ty 44 g (i * 6) (l.length + 1 - i) dc ⟨vb, 0, none⟩ 1 1 6 1 (aC ⟨u0, u1, u2, u3, u4, u5⟩) Try.underlying28 HSZ (by simp only [Nat.min_def]; split <;> omega) rfl (newsV hv1)
      (fun j hj => by rw [k1.cell]; simp [show i * 6 + j < (over cur ((i + 1) * 6) (flatA (l.drop i))).length by rw [hl1]; simp [aC] at hj; omega]) (fun j hj => k1.frozen _) (aC_ones _)
  have k2 := blk_setCells g (aC ⟨u0, u1, u2, u3, u4, u5⟩) (i * 6) W1 _ k1 (by rw [hl1]; simp [aC]; omega)
  have G2 := grown_setCells g (aC ⟨u0, u1, u2, u3, u4, u5⟩) (i * 6) W1
  have HP : Hid (InsPost lo l i ⟨u0, u1, u2, u3, u4, u5⟩ (some g) w (.returned (.slice (some ⟨g, 0, none⟩) (l.length + 1) c)) (W1.setCells g (i * 6) (aC ⟨u0, u1, u2, u3, u4, u5⟩))) := by
    have hgw : w.grownBy (W1.setCells g (i * 6) (aC ⟨u0, u1, u2, u3, u4, u5⟩)) (some g) := grown_trans (grown_trans (show w.grownBy w.drew _ from ⟨rfl, rfl, rfl, Nat.le_refl _, fun _ _ _ => rfl⟩) G1) G2
    refine ⟨_, _, rfl, ⟨by rw [flatA_len, putIn_len (by omega)], .inr ⟨g, c, _, rfl, hlog, k2, hroom, by unfold maxLen; omega, ?_, ?_⟩⟩, hgw, below_grown_own hgw hlog hlo⟩
    · have h2 := over_len (cur := over cur ((i + 1) * 6) (flatA (l.drop i))) (vs := aC ⟨u0, u1, u2, u3, u4, u5⟩) (o := i * 6) (by rw [hl1]; simp [aC]; omega)
      rw [List.size_toArray, h2, hl1, hsz]
    · show ((over (over cur ((i + 1) * 6) (flatA (l.drop i))) (i * 6) (aC ⟨u0, u1, u2, u3, u4, u5⟩)).take ((l.length + 1) * 6)) = _
      rw [putIn, flatA_append, flatA_cons, ← hd.1, ← htk, List.take_take, Nat.min_eq_left (by omega)]
      exact over_over hdl rfl (by omega) (by omega)
  have hov : ∀ lb cb, (callFunc 73 #[.slice (some ⟨vb, 0, none⟩) 1 1, .slice (some ⟨g, (i + 1) * 6, none⟩) lb cb]).run Try.prog w = .ok (.value (.bool false)) w := fun lb cb => by
    rw [run_callFunc_extern Try.func73 (by kernel_rfl) (by kernel_rfl) (by kernel_rfl) (e := Extern.SlicesOverlaps.overlaps #[28, 28] #[4]) (by kernel_rfl),
      Lib.run_overlaps_apart w 28 4 44 Try.underlying28 6 Try.sizeOf44 ⟨vb, 0, none⟩ ⟨g, (i + 1) * 6, none⟩ 1 1 lb cb hne 44 44 6 (c * 6) (blk_shape hv rfl) (blk_shape hcur (by simpa using hsz)) (by omega) (hv.frozen 0) (hv.frozen 6)]
    rfl
  clear hcur htk k1 k2 G1 G2 hat hsrc1 hv hv1 ho hd hdl hl1
  have hz1' : ¬ ((i : Int) = (l.length : Int)) := by omega
  have hz2' : ¬ (c = i) := by omega
  have hz3' : ¬ (c = i + 1) := by omega
  have hw1 : IntKind.i64.wrap ((i : Int) + 1) = (i : Int) + 1 := IntWalk.i64_in _ (by omega)
  have hw2 : ((i : Int) + 1).toNat = i + 1 := by omega
  have hw3 : (0 : Int) ≤ (i : Int) + 1 := by omega
  have hw4 : (i : Int) ≤ (l.length : Int) + 1 := by omega
  have hw5 : (i : Int) + 1 ≤ (l.length : Int) + 1 := by omega
  have HOV := Lib.hid hov
  clear hov
  go_enter Try.func56, Try.ntmps56
  go_wp2_with (simp only [HOV.out])
  go_region_with (fail)
  all_goals
    go_wp2
    go_ret
    exact HP.out
set_option maxHeartbeats 4000000 in
set_option maxRecDepth 100000 in
/-- Within, and there is no room: a new row. -/
theorem insert_grow (lo : Nat) (g c i : Nat) (l : List Ag) (u0 u1 u2 u3 u4 u5 : Int) (vb : Nat) (w : World) (ho : w.ownsRow lo 44 6 (.slice (some ⟨g, 0, none⟩) l.length c) l.length (flatA l)) (hv : Blk w vb 44 #[.int .i64 u0, .int .i64 u1, .int .i64 u2, .int .i64 u3, .int .i64 u4, .int .i64 u5]) (hi : i < l.length) (hroom : ¬ (l.length + 1 ≤ c)) (hlo : lo ≤ w.heap.size) (hlen : l.length ≤ 1048576) :
    Calls Try.prog 56 #[.slice (some ⟨g, 0, none⟩) l.length c, .int .i64 i, .slice (some ⟨vb, 0, none⟩) 1 1] w (InsPost lo l i ⟨u0, u1, u2, u3, u4, u5⟩ (some g) w) := by
  obtain ⟨i0, hi0, hz0, hz1, hz2⟩ := info_parts6 infoAgg
  have hc := ownR_cap ho
  obtain rfl : c = l.length := by omega
  obtain ⟨g', hg', hgl, hgw⟩ := ownR_block ho (by omega)
  simp only [Option.some.injEq, Addr.mk.injEq, and_true] at hg'
  subst hg'
  have HSZ : (Try.prog.info? 44).map (·.size) = some 6 := by rw [hi0]; simp [hz1]
  have hdl : (flatA (l.drop i)).length = (l.length - i) * 6 := by rw [flatA_len, List.length_drop]
  have htl : (flatA (l.take i)).length = i * 6 := by rw [flatA_len, List.length_take, Nat.min_eq_left (by omega)]
  have hd := (flatA_takes l i (by omega))
  have hcells : ∀ j v, (flatA l)[j]? = some v → w.cell? ⟨g, j, none⟩ = some v := fun j v hj => (ho.cellAt j (by have := (List.getElem?_eq_some_iff.1 hj).1; rwa [flatA_len] at this)).trans hj
  have adl : ∀ o j, (⟨g, o, none⟩ : Addr).add j = ⟨g, o + j, none⟩ := fun o j => by by_cases h0 : j = 0 <;> simp [Addr.add, h0]
  have hold : (Builtin.firstCells i0.size i (.slice (some ⟨g, 0, none⟩) i l.length)).run Try.prog w.drew = .ok (flatA (l.take i)).toArray w.drew := by
    rw [hz1]
    exact run_firstCells_some w.drew 6 i ⟨g, 0, none⟩ i l.length (flatA (l.take i)) htl (fun j v hj => by
      rw [adl, Nat.zero_add]
      rw [← hd.1, List.getElem?_take] at hj
      split at hj
      · exact hcells j v hj
      · cases hj)
  have hik : i + (l.length + 1 - i) = l.length + 1 := by omega
  have hkk : (l.length : Int) + 1 - (i : Int) = ((l.length + 1 - i : Nat) : Int) := by omega
  obtain ⟨G, hG⟩ : ∃ G, G = grownCap w (l.length + 1) l.length 44 := ⟨_, rfl⟩
  have hGn : l.length + 1 ≤ G := by rw [hG]; exact grownCap_ge w _ _ _
  have hG63 : G ≤ 9223372036854775807 := by
    have := grownCap_le_maxLen w (l.length + 1) l.length 44 (by unfold maxLen; omega)
    rw [← hG] at this
    unfold maxLen at this
    omega
  obtain ⟨ROW, hROW⟩ : ∃ ROW : Array Value, ROW = (flatA (l.take i)).toArray ++ Builtin.zeroCells (Value.agg #[.int .i64 0, .int .i64 0, .int .i64 0, .int .i64 0, .int .i64 0, .int .i64 0]).cells (l.length + 1 - i) ++ Builtin.zeroCells (Value.agg #[.int .i64 0, .int .i64 0, .int .i64 0, .int .i64 0, .int .i64 0, .int .i64 0]).cells (G - (l.length + 1)) := ⟨_, rfl⟩
  have hrz : ∀ ty, (Builtin.append_ #[28, 3] ty #[.slice (some ⟨g, 0, none⟩) i l.length, .int .i64 ((l.length : Int) + 1 - (i : Int))]).run Try.prog w = .ok (.slice (some ⟨w.heap.size, 0, none⟩) (l.length + 1) G) (w.drew.alloc (.cells ROW 44)) := fun ty => by
    have h := Lib.run_append_grow_zeros w 28 3 ty 44 i0 _ .i64 .i64 Try.underlying28 Try.underlying3 hi0 hz0 (some ⟨g, 0, none⟩) i l.length (flatA (l.take i)) hold (l.length + 1 - i) (by omega) (by omega) (by omega) (by omega) (by rw [hz2]; omega) (by rw [hz2, hik]; exact growslice_fits (by omega) (by omega))
    rw [hik, ← hG, ← hROW] at h
    rw [hkk]
    exact h
  have hRl : ROW.size = G * 6 := by
    rw [hROW]
    simp [Builtin.zeroCells, Value.cells, htl]
    omega
  have hRt : ROW.toList.take (i * 6) = flatA (l.take i) := by
    rw [hROW]
    simp only [Array.toList_append, List.append_assoc]
    rw [List.take_append_of_le_length (by omega), List.take_of_length_le (by omega)]
  have k1 : Blk (w.drew.alloc (.cells ROW 44)) w.heap.size 44 ROW.toList.toArray := by simpa using Blk.new w.drew 44 ROW
  have b1 : Below w.heap.size w (w.drew.alloc (.cells ROW 44)) := (Below.refl _ _).drew.alloc (Nat.le_refl _) _
  have hRl2 : ROW.toList.length = G * 6 := by simpa using hRl
  have hvw := hv.lt
  generalize hW1 : w.drew.alloc (.cells ROW 44) = W1 at hrz k1 b1
  clear hW1
  have hv1 : Blk W1 vb 44 #[.int .i64 u0, .int .i64 u1, .int .i64 u2, .int .i64 u3, .int .i64 u4, .int .i64 u5] := hv.belowB b1 hvw
  have hcp1 : ∀ ty dc, (Builtin.copy_ #[28, 28] ty #[.slice (some ⟨w.heap.size, i * 6, none⟩) (l.length + 1 - i) dc, .slice (some ⟨vb, 0, none⟩) 1 1]).run Try.prog W1 = .ok (goInt (1 : Nat)) (W1.setCells w.heap.size (i * 6) (aC ⟨u0, u1, u2, u3, u4, u5⟩)) := fun ty dc =>
    run_copy_recs W1 _ _ ty 44 w.heap.size (i * 6) (l.length + 1 - i) dc ⟨vb, 0, none⟩ 1 1 6 1 (aC ⟨u0, u1, u2, u3, u4, u5⟩) Try.underlying28 HSZ (by simp only [Nat.min_def]; split <;> omega) rfl (newsV hv1)
      (fun j hj => by rw [k1.cell]; simp [show i * 6 + j < ROW.size by simp [aC] at hj; omega]) (fun j hj => k1.frozen _) (aC_ones _)
  have k2 := blk_setCells w.heap.size (aC ⟨u0, u1, u2, u3, u4, u5⟩) (i * 6) W1 _ k1 (by simp [aC]; omega)
  have b2 : Below w.heap.size w (W1.setCells w.heap.size (i * 6) (aC ⟨u0, u1, u2, u3, u4, u5⟩)) := by
    have := grown_setCells w.heap.size (aC ⟨u0, u1, u2, u3, u4, u5⟩) (i * 6) W1
    exact b1.trans (below_grown_own this (Nat.le_refl _) b1.size)
  have hl2 := over_len (cur := ROW.toList) (vs := aC ⟨u0, u1, u2, u3, u4, u5⟩) (o := i * 6) (by simp [aC]; omega)
  generalize hW2 : W1.setCells w.heap.size (i * 6) (aC ⟨u0, u1, u2, u3, u4, u5⟩) = W2 at hcp1 k2 b2
  clear hW2
  have hcp2 : ∀ ty dc sc, (Builtin.copy_ #[28, 28] ty #[.slice (some ⟨w.heap.size, (i + 1) * 6, none⟩) (l.length - i) dc, .slice (some ⟨g, i * 6, none⟩) (l.length - i) sc]).run Try.prog W2.drew = .ok (goInt (l.length - i : Nat)) (W2.drew.setCells w.heap.size ((i + 1) * 6) (flatA (l.drop i))) := fun ty dc sc =>
    run_copy_recs W2.drew _ _ ty 44 w.heap.size ((i + 1) * 6) (l.length - i) dc ⟨g, i * 6, none⟩ (l.length - i) sc 6 (l.length - i) (flatA (l.drop i)) Try.underlying28 HSZ (by simp only [Nat.min_def]; split <;> omega) hdl
      (fun j v hj => by
        rw [adl, World.cell?_drew, b2.cell (p := ⟨g, i * 6 + j, none⟩) hgw]
        rw [← hd.2, List.getElem?_drop] at hj
        exact hcells _ v hj)
      (fun j hj => by rw [World.cell?_drew, k2.cell]; simp [show (i + 1) * 6 + j < (over ROW.toList (i * 6) (aC ⟨u0, u1, u2, u3, u4, u5⟩)).length by rw [hl2]; omega]) (fun j hj => k2.frozen _) (flatA_ones _)
  have k3 := blk_setCells w.heap.size (flatA (l.drop i)) ((i + 1) * 6) W2.drew _ k2 (by rw [hl2]; omega)
  have b3 : Below w.heap.size w (W2.drew.setCells w.heap.size ((i + 1) * 6) (flatA (l.drop i))) := by
    have := grown_setCells w.heap.size (flatA (l.drop i)) ((i + 1) * 6) W2.drew
    exact b2.drew.trans (below_grown_own this (Nat.le_refl _) b2.size)
  have hl3 := over_len (cur := over ROW.toList (i * 6) (aC ⟨u0, u1, u2, u3, u4, u5⟩)) (vs := flatA (l.drop i)) (o := (i + 1) * 6) (by rw [hl2]; omega)
  generalize hW3 : W2.drew.setCells w.heap.size ((i + 1) * 6) (flatA (l.drop i)) = W3 at hcp2 k3 b3
  clear hW3
  have HP : Hid (InsPost lo l i ⟨u0, u1, u2, u3, u4, u5⟩ (some g) w (.returned (.slice (some ⟨w.heap.size, 0, none⟩) (l.length + 1) G)) W3) := by
    refine ⟨_, _, rfl, ⟨by rw [flatA_len, putIn_len (by omega)], .inr ⟨w.heap.size, G, _, rfl, hlo, k3, hGn, by unfold maxLen; omega, ?_, ?_⟩⟩, ⟨b3.os, b3.tape, b3.output, b3.size, fun k hk _ => b3.block k hk⟩, b3.mono hlo⟩
    · rw [List.size_toArray, hl3, hl2, hRl2]
    · show ((over (over ROW.toList (i * 6) (aC ⟨u0, u1, u2, u3, u4, u5⟩)) ((i + 1) * 6) (flatA (l.drop i))).take ((l.length + 1) * 6)) = _
      rw [putIn, flatA_append, flatA_cons]
      exact over_two hRt hdl rfl (by omega) (by omega)
  clear k1 k2 k3 b1 b2 b3 hl2 hl3 hRl hRl2 hRt hv hv1 ho hd hdl htl hold hik hROW hG hcells adl
  have hz1' : ¬ ((i : Int) = (l.length : Int)) := by omega
  have hz2' : ¬ (l.length = i) := by omega
  have hz3' : ¬ (G = i + 1) := by omega
  have hz4' : ¬ (G = i) := by omega
  have hw1 : IntKind.i64.wrap ((i : Int) + 1) = (i : Int) + 1 := IntWalk.i64_in _ (by omega)
  have hw2 : ((i : Int) + 1).toNat = i + 1 := by omega
  have hw3 : (0 : Int) ≤ (i : Int) + 1 := by omega
  have hw4 : (i : Int) ≤ (l.length : Int) + 1 := by omega
  have hw5 : (i : Int) + 1 ≤ (l.length : Int) + 1 := by omega
  clear hkk
  go_enter Try.func56, Try.ntmps56
  go_wp2_with (at_builtin; refine Lib.wpList_append_run _ rfl _ _ _ _ rfl _ _ rfl rfl _ _ (hrz _) ?_)
  go_region_with (fail)
  all_goals
    go_wp2
    go_ret
    exact HP.out
end Go.Proofs.Ytnnpppdgkbmieaa
