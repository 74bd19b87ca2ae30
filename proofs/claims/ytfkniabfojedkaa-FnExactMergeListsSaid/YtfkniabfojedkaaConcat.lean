/- slices.Concat of two rows of aggs. -/
import Derived.Test.YtfkniabfojedkaaAppA
import Derived.Laws.OwnMore
import Derived.IntWalk
namespace Go.Proofs.Ytfkniabfojedkaa
open Go.RowKit
/-- A whole row appended to a row of the call's own. -/
theorem appendL {w : World} {lo lo2 n c m c2 : Nat} {a1 a2 : Option Addr} {l k : List Ag} (ho : w.ownsRow lo 48 6 (.slice a1 n c) n (flatA l)) (hlo : lo ≤ w.heap.size) (hb : n + m ≤ 2097152) (ty : TypeId)
    (h2 : w.ownsRow lo2 48 6 (.slice a2 m c2) m (flatA k)) :
    ∃ a3 c3 w', (Builtin.append_ #[25, 25] ty #[.slice a1 n c, .slice a2 m c2]).run Try.prog w = .ok (.slice a3 (n + m) c3) w' ∧
      w'.ownsRow lo 48 6 (.slice a3 (n + m) c3) (n + m) (flatA (l ++ k)) ∧ Below lo w w' := by
  obtain ⟨i0, hi0, hz0, hz1, hz2⟩ := info_parts6 infoAgg
  have hm := h2.1
  rw [flatA_len] at hm
  have hmk : m = k.length := by omega
  rcases h2.2 with ⟨hv, hm0⟩ | ⟨g, cap, cur, hv, hg, hh, hc⟩
  · simp only [Value.slice.injEq] at hv
    obtain ⟨rfl, rfl, rfl⟩ := hv
    have hk : k = [] := List.length_eq_zero_iff.1 hmk.symm
    subst hk
    have h := run_append_owned_none (P := Try.prog) (w := w) lo 25 ty 48 i0 6 Try.underlying25 hi0 _ n _ ho
    exact ⟨a1, c, w, by simpa using h, by simpa using ho, Below.refl _ _⟩
  · simp only [Value.slice.injEq, true_and] at hv
    obtain ⟨rfl, rfl⟩ := hv
    obtain ⟨v', w', hr, h3, h4, _⟩ := run_append_own (P := Try.prog) w lo 25 ty 48 i0 (.agg #[.int .i64 0, .int .i64 0, .int .i64 0, .int .i64 0, .int .i64 0, .int .i64 0]) 6 48 Try.underlying25 hi0 hz0 hz1 hz2 rfl (by decide) _ n _ ho ⟨g, 0, none⟩ m c2 (flatA k) (by rw [flatA_len, hmk])
      (fun j u hj => by
        have hjl := (List.getElem?_eq_some_iff.1 hj).1
        rw [flatA_len] at hjl
        have e : (⟨g, 0, none⟩ : Addr).add j = ⟨g, j, none⟩ := by
          by_cases h0 : j = 0
          · subst h0; rfl
          · simp [Addr.add, h0]
        rw [e, h2.cellAt j (by omega), hj]) (flatA_ones k) (by unfold maxLen; omega) (by omega) hlo
    obtain ⟨a3, c3, rfl⟩ := ownsR_shape h3
    exact ⟨a3, c3, w', hr, by rw [flatA_append]; exact h3, below_own ho h4 hlo⟩
set_option maxHeartbeats 1000000 in
set_option maxRecDepth 100000 in
theorem grow_x (k : Nat) (w : World) (hk : k ≤ 1048576) : Calls Try.prog 79 #[.slice none 0 0, .int .i64 (k : Int)] w (fun e w' => ∃ a c, e = .returned (.slice a 0 c) ∧ w'.ownsRow w.heap.size 48 6 (.slice a 0 c) 0 (flatA []) ∧ Below w.heap.size w w') := by
  rcases Nat.eq_zero_or_pos k with h0 | h0
  · subst h0
    go_enter Try.func79, Try.ntmps79
    go_wp2
    go_ret
    exact ⟨none, 0, rfl, World.ownsRow_nil _ _ _ _, Below.refl _ _⟩
  · obtain ⟨i0, hi0, hz0, hz1, hz2⟩ := info_parts6 infoAgg
    have hr := Lib.hid (Lib.run_append_nil_zeros (P := Try.prog) w 25 3 25 48 i0 _ .i64 .i64 Try.underlying25 Try.underlying3 hi0 hz0 k h0 (by omega) (by omega) (by rw [hz2]; omega))
    have hG1 : k ≤ grownCap w k 0 48 := grownCap_ge w _ _ _
    have hG2 : grownCap w k 0 48 ≤ 9223372036854775807 := by
      have := grownCap_le_maxLen w k 0 48 (by unfold maxLen; omega)
      unfold maxLen at this
      omega
    have hsz : (Builtin.zeroCells (Value.agg #[.int .i64 0, .int .i64 0, .int .i64 0, .int .i64 0, .int .i64 0, .int .i64 0]).cells k ++ Builtin.zeroCells (Value.agg #[.int .i64 0, .int .i64 0, .int .i64 0, .int .i64 0, .int .i64 0, .int .i64 0]).cells (grownCap w k 0 48 - k)).size = grownCap w k 0 48 * 6 := by
      simp [Builtin.zeroCells, Value.cells]
      omega
    generalize grownCap w k 0 48 = G at hr hG1 hG2 hsz
    generalize Builtin.zeroCells _ k ++ Builtin.zeroCells _ (G - k) = CS at hr hsz
    have FIN : Hid (∃ a c, Ending.returned (.slice (some ⟨w.heap.size, 0, none⟩) 0 G) = .returned (.slice a 0 c) ∧ (w.drew.alloc (.cells CS 48)).ownsRow w.heap.size 48 6 (.slice a 0 c) 0 (flatA []) ∧ Below w.heap.size w (w.drew.alloc (.cells CS 48))) :=
      Lib.hid ⟨_, _, rfl, ⟨rfl, .inr ⟨_, G, CS, rfl, Nat.le_refl _, Blk.new w.drew _ _, Nat.zero_le _, by unfold maxLen; omega, hsz, rfl⟩⟩, (Below.refl _ _).drew.alloc (Nat.le_refl _) _⟩
    have w1 : IntKind.i64.wrap (k : Int) = (k : Int) := IntWalk.i64_in _ (by omega)
    have hk0 : (0 : Int) < (k : Int) := by omega
    go_enter Try.func79, Try.ntmps79
    go_wp2_with (at_builtin; refine Lib.wpList_append_run _ rfl _ _ _ _ rfl _ _ rfl rfl _ _ hr.out ?_)
    go_ret
    exact FIN.out
set_option maxHeartbeats 2000000 in
set_option maxRecDepth 100000 in
theorem concat_x (bb : Nat) (a a2 : Option Addr) (n n2 c c2 lo lo2 : Nat) (l l2 : List Ag) (T : TypeId) (w : World) (hb : Blk w bb T #[.slice a n c, .slice a2 n2 c2]) (h1 : w.ownsRow lo 48 6 (.slice a n c) n (flatA l)) (h2 : w.ownsRow lo2 48 6 (.slice a2 n2 c2) n2 (flatA l2)) (hs : n + n2 ≤ 1048576) :
    Calls Try.prog 44 #[.slice (some ⟨bb, 0, none⟩) 2 2] w (FreshR aC 48 6 (l ++ l2) w) := by
  have q0 : w.cell? ⟨bb, 0, none⟩ = some (.slice a n c) := hb.cell 0
  have q1 : w.cell? ⟨bb, 1, none⟩ = some (.slice a2 n2 c2) := hb.cell 1
  have KB := Lib.hid hb
  have H1 := Lib.hid h1
  have H2 := Lib.hid h2
  have HL : Hid (n + n2 = (l ++ l2).length) := Lib.hid (by rw [List.length_append, ← ownR_len aC_len (by omega) h1, ← ownR_len aC_len (by omega) h2])
  have w1 : IntKind.i64.wrap (n : Int) = (n : Int) := IntWalk.i64_in _ (by omega)
  have w2 : IntKind.i64.wrap ((n : Int) + (n2 : Int)) = ((n + n2 : Nat) : Int) := by rw [show (n : Int) + (n2 : Int) = ((n + n2 : Nat) : Int) by omega]; exact IntWalk.i64_in _ (by omega)
  have w3 : ¬ ((n + n2 : Nat) : Int) < 0 := by omega
  clear hb h1 h2
  go_enter Try.func44, Try.ntmps44
  go_wp2
  refine wp_loop_rounds 3 ?_
  rw [rounds_succ]
  go_wp2
  rw [rounds_succ]
  go_wp2
  rw [rounds_succ]
  go_wp2_with fail
  refine (grow_x (n + n2) w hs).mono ?_
  rintro e v1 ⟨a3, c3, rfl, ho, hb1⟩
  have KB1 := Lib.hid (KB.out.below hb1)
  have G1 := Lib.hid (owns_below H1.out hb1)
  have G2 := Lib.hid (owns_below H2.out hb1)
  obtain ⟨a4, c4, v2, hr, ho2, hb2⟩ := appendL ho hb1.size (by omega) 25 G1.out
  simp only [Nat.zero_add, List.nil_append] at hr ho2
  have R1 := Lib.hid hr
  have KB2 := Lib.hid (KB1.out.belowB hb2 KB.out.lt)
  have G3 := Lib.hid (show v2.ownsRow lo2 _ _ _ _ _ from by
    have := Rw.below (up := w.heap.size) (B := w.heap.size) ⟨H2.out, fun k hk => (H2.out.lt k hk).2⟩ (hb1.trans hb2) (Nat.le_refl _)
    exact this.own)
  obtain ⟨a5, c5, v3, hr2, ho3, hb3⟩ := appendL ho2 (Nat.le_trans hb1.size hb2.size) (by omega) 25 G3.out
  have R2 := Lib.hid hr2
  have FIN : Hid (FreshR aC 48 6 (l ++ l2) w (.returned (.slice a5 (n + n2) c5)) v3) := Lib.hid ⟨a5, c5, by rw [HL.out], by rw [← HL.out]; exact ho3, hb1.trans (hb2.trans hb3)⟩
  have q0 : v1.cell? ⟨bb, 0, none⟩ = some (.slice a n c) := KB1.out.cell 0
  have q1 : v2.cell? ⟨bb, 1, none⟩ = some (.slice a2 n2 c2) := KB2.out.cell 1
  clear hr hr2 ho ho2 ho3 hb1 hb2 hb3 w1 w2 w3
  go_wp2
  refine wp_loop_rounds 3 ?_
  rw [rounds_succ]
  go_wp2_with (at_builtin; refine Lib.wpList_append_run _ rfl _ _ _ _ rfl _ _ rfl rfl _ _ R1.out ?_)
  rw [rounds_succ]
  go_wp2_with (at_builtin; refine Lib.wpList_append_run _ rfl _ _ _ _ rfl _ _ rfl rfl _ _ R2.out ?_)
  rw [rounds_succ]
  go_wp2
  go_ret
  exact FIN.out
end Go.Proofs.Ytfkniabfojedkaa
