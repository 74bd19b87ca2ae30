/- One Frame more behind a row of the call's own. (made by tools/mkapp.py) -/
import Derived.Test.YtneolndbhklboaaFmRow
import Derived.LaidEql
import Derived.Lib.LazyBuf
import Derived.Lib.AppendZeros
import Derived.OwnWalk
namespace Go.Proofs.Ytneolndbhklboaa
open Go.RowKit
theorem qC_ones (S : Fm) : ∀ u ∈ qC S, u.oneCell' = true := by
  intro u hu
  simp only [qC, List.mem_cons, List.not_mem_nil, or_false] at hu
  rcases hu with rfl | rfl | rfl | rfl <;> rfl
theorem newsQ {W : World} {S : Fm} {T : TypeId} {B : Nat} (hB : W.heap.size = B) : ∀ (j : Nat) (u : Value), (qC S)[j]? = some u → (W.alloc (.cells (qC S).toArray T)).cell? ((⟨B, 0, none⟩ : Addr).add j) = some u := by
  subst hB
  intro j u hj
  have hadd : (⟨W.heap.size, 0, none⟩ : Addr).add j = ⟨W.heap.size, j, none⟩ := by unfold Addr.add; split <;> simp_all
  rw [hadd, (Blk.new W T (qC S).toArray).cell j]
  simpa using hj
theorem appendQ {w : World} {lo n c : Nat} {a1 : Option Addr} {l : List Fm} (S : Fm) (hn : n = l.length) (ho : w.ownsRow lo 38 4 (.slice a1 n c) n (flatQ l)) (hlo : lo ≤ w.heap.size) (hb : n ≤ 2097152) (ty : TypeId) :
    ∃ a3 c3 w', (Builtin.append_ #[24, 24] ty #[.slice a1 n c, .slice (some ⟨w.heap.size, 0, none⟩) 1 1]).run Try.prog (w.alloc (.cells #[.int .i64 S.k, .int .i64 S.y, .int .i64 S.t, .int .i64 S.v] 38)) = .ok (.slice a3 (n + 1) c3) w' ∧
      w'.ownsRow lo 38 4 (.slice a3 (n + 1) c3) (n + 1) (flatQ (l ++ [S])) ∧ Below lo w w' ∧ w.grownBy w' (Value.slice a1 n c).ownBlock := by
  obtain ⟨i0, hi, hzz⟩ := Option.map_eq_some_iff.1 infoFrame
  simp only [Prod.mk.injEq] at hzz
  obtain ⟨hz0, hz1, hz2⟩ := hzz
  obtain ⟨v', w', hr, h2, h3, _⟩ := run_append_own (P := Try.prog) (w.alloc (.cells (qC S).toArray 38)) lo 24 ty 38 i0 (.agg #[.int .i64 0, .int .i64 0, .int .i64 0, .int .i64 0]) 4 32 Try.underlying24 hi hz0 hz1 hz2 rfl (by decide) _ n _ (ho.alloc _) ⟨w.heap.size, 0, none⟩ 1 1 (qC S) rfl (newsQ rfl) (qC_ones S) (by unfold maxLen; omega) (by omega) (by simp; omega)
  obtain ⟨a3, c3, rfl⟩ := owns_shape h2
  refine ⟨a3, c3, w', hr, ?_, ((Below.refl lo w).alloc hlo _).trans (below_own (ho.alloc _) h3 (by simp; omega)), grown_trans (World.grownBy_alloc w _ _) h3⟩
  rw [flatQ_append]
  simpa [flatQ, flatR] using h2
/-- An empty row of the call's own, just laid. -/
theorem own0Q (W : World) (lo : Nat) (h : lo ≤ W.heap.size) : (W.alloc (.cells #[] 38)).ownsRow lo 38 4 (.slice (some ⟨W.heap.size, 0, none⟩) 0 0) 0 (flatQ []) :=
  World.ownsRow_lit (e := 38) (size := 4) W #[] 0 h (by unfold maxLen; omega) (by simp)
end Go.Proofs.Ytneolndbhklboaa
