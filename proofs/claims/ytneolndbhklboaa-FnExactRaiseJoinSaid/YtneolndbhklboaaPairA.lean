/- One Pair more behind a row of the call's own. (made by tools/mkapp.py) -/
import Derived.Test.YtneolndbhklboaaPairS
import Derived.LaidEql
import Derived.Lib.LazyBuf
import Derived.Lib.AppendZeros
import Derived.OwnWalk
namespace Go.Proofs.Ytneolndbhklboaa
open Go.RowKit
theorem gC_ones (S : Pr) : ∀ u ∈ gC S, u.oneCell' = true := by
  intro u hu
  simp only [gC, List.mem_cons, List.not_mem_nil, or_false] at hu
  rcases hu with rfl | rfl | rfl | rfl | rfl <;> rfl
theorem newsG {W : World} {S : Pr} {T : TypeId} {B : Nat} (hB : W.heap.size = B) : ∀ (j : Nat) (u : Value), (gC S)[j]? = some u → (W.alloc (.cells (gC S).toArray T)).cell? ((⟨B, 0, none⟩ : Addr).add j) = some u := by
  subst hB
  intro j u hj
  have hadd : (⟨W.heap.size, 0, none⟩ : Addr).add j = ⟨W.heap.size, j, none⟩ := by unfold Addr.add; split <;> simp_all
  rw [hadd, (Blk.new W T (gC S).toArray).cell j]
  simpa using hj
theorem appendG {w : World} {lo n c : Nat} {a1 : Option Addr} {l : List Pr} (S : Pr) (hn : n = l.length) (ho : w.ownsRow lo 53 5 (.slice a1 n c) n (flatG l)) (hlo : lo ≤ w.heap.size) (hb : n ≤ 2097152) (ty : TypeId) :
    ∃ a3 c3 w', (Builtin.append_ #[30, 30] ty #[.slice a1 n c, .slice (some ⟨w.heap.size, 0, none⟩) 1 1]).run Try.prog (w.alloc (.cells #[.int .i64 S.ky, .int .i64 S.lt, .int .i64 S.rt, .int .i64 S.lv, .int .i64 S.rv] 53)) = .ok (.slice a3 (n + 1) c3) w' ∧
      w'.ownsRow lo 53 5 (.slice a3 (n + 1) c3) (n + 1) (flatG (l ++ [S])) ∧ Below lo w w' ∧ w.grownBy w' (Value.slice a1 n c).ownBlock := by
  obtain ⟨i0, hi, hzz⟩ := Option.map_eq_some_iff.1 infoPair
  simp only [Prod.mk.injEq] at hzz
  obtain ⟨hz0, hz1, hz2⟩ := hzz
  obtain ⟨v', w', hr, h2, h3, _⟩ := run_append_own (P := Try.prog) (w.alloc (.cells (gC S).toArray 53)) lo 30 ty 53 i0 (.agg #[.int .i64 0, .int .i64 0, .int .i64 0, .int .i64 0, .int .i64 0]) 5 40 Try.underlying30 hi hz0 hz1 hz2 rfl (by decide) _ n _ (ho.alloc _) ⟨w.heap.size, 0, none⟩ 1 1 (gC S) rfl (newsG rfl) (gC_ones S) (by unfold maxLen; omega) (by omega) (by simp; omega)
  obtain ⟨a3, c3, rfl⟩ := owns_shape h2
  refine ⟨a3, c3, w', hr, ?_, ((Below.refl lo w).alloc hlo _).trans (below_own (ho.alloc _) h3 (by simp; omega)), grown_trans (World.grownBy_alloc w _ _) h3⟩
  rw [flatG_append]
  simpa [flatG, flatR] using h2
/-- An empty row of the call's own, just laid. -/
theorem own0G (W : World) (lo : Nat) (h : lo ≤ W.heap.size) : (W.alloc (.cells #[] 53)).ownsRow lo 53 5 (.slice (some ⟨W.heap.size, 0, none⟩) 0 0) 0 (flatG []) :=
  World.ownsRow_lit (e := 53) (size := 5) W #[] 0 h (by unfold maxLen; omega) (by simp)
end Go.Proofs.Ytneolndbhklboaa
