/- Chapter 12: one frame more behind one of many rows. (made by tools/mkaddj.py) -/
import Derived.Test.YtneolndbhklboaaJoinS
import Derived.Test.YtneolndbhklboaaFmA
import Derived.Maps.AppendAt
namespace Go.Proofs.Ytneolndbhklboaa
open Go.RowKit
theorem Many.push {pre post : List RowD} {a : Option Addr} {c lo up : Nat} {l : List Fm} {w : World} (S : Fm) (h : Many lo up (pre ++ rQ a c l :: post) w) (hup : up ≤ w.heap.size) (hlo : lo ≤ w.heap.size) (hb : l.length ≤ 2097152) (ty : TypeId) :
    ∃ a3 c3 w', (Builtin.append_ #[24, 24] ty #[.slice a l.length c, .slice (some ⟨w.heap.size, 0, none⟩) 1 1]).run Try.prog (w.alloc (.cells #[.int .i64 S.k, .int .i64 S.y, .int .i64 S.t, .int .i64 S.v] 38)) = .ok (.slice a3 (l.length + 1) c3) w' ∧
      Many lo w'.heap.size (pre ++ rQ a3 c3 (l ++ [S]) :: post) w' ∧ Below lo w w' ∧ w.grownBy w' (Value.slice a l.length c).ownBlock := by
  obtain ⟨i0, hi, hzz⟩ := Option.map_eq_some_iff.1 infoFrame
  simp only [Prod.mk.injEq] at hzz
  obtain ⟨hz0, hz1, hz2⟩ := hzz
  have hr0 : Rw 38 4 lo up a l.length c (flatQ l) w := h.row (rQ a c l) (by simp)
  obtain ⟨v', w', hr, h2, h3, _, h4⟩ := run_append_own_at (P := Try.prog) (w.alloc (.cells (qC S).toArray 38)) lo 24 ty 38 i0 (.agg #[.int .i64 0, .int .i64 0, .int .i64 0, .int .i64 0]) 4 32 Try.underlying24 hi hz0 hz1 hz2 rfl (by decide) _ l.length _ (hr0.own.alloc _) ⟨w.heap.size, 0, none⟩ 1 1 (qC S) rfl (newsQ rfl) (qC_ones S) (by unfold maxLen; omega) (by omega) (by simp; omega)
  obtain ⟨a3, c3, rfl⟩ := owns_shape h2
  have hg : w.grownBy w' (Value.slice a l.length c).ownBlock := grown_trans (World.grownBy_alloc w _ _) h3
  have ho : w'.ownsRow lo 38 4 (.slice a3 (l ++ [S]).length c3) (l ++ [S]).length (flatQ (l ++ [S])) := by
    rw [flatQ_append, List.length_append]
    simpa [flatQ, flatR] using h2
  have hap := List.pairwise_append.1 h.apart
  have hap2 := List.pairwise_cons.1 hap.2.1
  have hnew : ∀ s ∈ pre ++ post, Apart (Value.slice a l.length c) s.v → (∀ k, s.v.ownBlock = some k → k < up) → Apart (Value.slice a3 (l ++ [S]).length c3) s.v := by
    intro s _ hs hk k h5 h6
    have h5' : (Value.slice a3 (l.length + 1) c3).ownBlock = some k := by simpa [Value.ownBlock] using h5
    rcases h4 with h4 | h4
    · rw [h4] at h5'; exact hs k h5' h6
    · rw [h4] at h5'
      have := hk k h6
      simp at h5'
      omega
  refine ⟨a3, c3, w', hr, ⟨fun s hs => ?_, List.pairwise_append.2 ⟨hap.1, List.pairwise_cons.2 ⟨fun s hs => ?_, hap2.2⟩, fun x hx y hy => ?_⟩⟩, ((Below.refl lo w).alloc hlo _).trans (below_own (hr0.own.alloc _) h3 (by simp; omega)), hg⟩
  · rcases List.mem_append.1 hs with hs | hs
    · have g := (h.row s (by simp [hs])).apart hg (hap.2.2 s hs (rQ a c l) (by simp))
      exact ⟨g.own, fun k hk => Nat.lt_of_lt_of_le (g.up k hk) (Nat.le_trans hup hg.size)⟩
    · rcases List.mem_cons.1 hs with rfl | hs
      · exact Rw.new ho
      · have g := (h.row s (by simp [hs])).apart hg ((hap2.1 s hs).symm)
        exact ⟨g.own, fun k hk => Nat.lt_of_lt_of_le (g.up k hk) (Nat.le_trans hup hg.size)⟩
  · exact hnew s (by simp [hs]) (hap2.1 s hs) (h.row s (by simp [hs])).up
  · rcases List.mem_cons.1 hy with rfl | hy
    · exact (hnew x (by simp [hx]) ((hap.2.2 x hx (rQ a c l) (by simp)).symm) (h.row x (by simp [hx])).up).symm
    · exact hap.2.2 x hx y (by simp [hy])
/-- What AddJoin hands back: the join, the pairs and the code, in memory of its own. -/
def AddPost (L R : List Fm) (mk : Int) (P : List Pr) (code : Int) (w : World) (e : Ending) (w' : World) : Prop :=
  ∃ a c b d p q, e = .returned (.tuple #[.agg #[.slice a L.length c, .slice b R.length d, .int .i64 mk], .slice p P.length q, .int .i64 code]) ∧ Many w.heap.size w'.heap.size [rQ a c L, rQ b d R, rG p q P] w' ∧ Below w.heap.size w w'
theorem Many.nil3 {lo up : Nat} {r0 r1 : RowD} {w : World} (h : Many lo up [r0, r1] w) : Many lo up [r0, r1, rG none 0 []] w := by
  have hp := List.pairwise_pair.1 h.apart
  refine ⟨fun r hr => ?_, ?_⟩
  · simp only [List.mem_cons, List.not_mem_nil, or_false] at hr
    rcases hr with rfl | rfl | rfl
    · exact h.row _ (by simp)
    · exact h.row _ (by simp)
    · exact ⟨World.ownsRow_nil _ _ _ _, fun k hk => by simp [Value.ownBlock] at hk⟩
  · refine List.pairwise_cons.2 ⟨fun s hs => ?_, List.pairwise_pair.2 (Apart.nil2 _)⟩
    simp only [List.mem_cons, List.not_mem_nil, or_false] at hs
    rcases hs with rfl | rfl
    · exact hp
    · exact Apart.nil2 _
end Go.Proofs.Ytneolndbhklboaa
