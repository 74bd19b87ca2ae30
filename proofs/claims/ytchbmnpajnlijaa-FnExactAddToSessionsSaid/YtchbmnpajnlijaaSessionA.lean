/- One Session more behind a row of the call's own. (made by tools/mkapp.py) -/
import Derived.Test.YtchbmnpajnlijaaSessionS
import Derived.LaidEql
import Derived.Lib.LazyBuf
import Derived.Lib.AppendZeros
import Derived.OwnWalk
namespace Go.Proofs.Ytchbmnpajnlijaa
open Go.RowKit
theorem zC_ones (S : Ss) : ∀ u ∈ zC S, u.oneCell' = true := by
  intro u hu
  simp only [zC, List.mem_cons, List.not_mem_nil, or_false] at hu
  rcases hu with rfl | rfl | rfl | rfl | rfl <;> rfl
theorem newsZ {W : World} {S : Ss} {T : TypeId} {B : Nat} (hB : W.heap.size = B) : ∀ (j : Nat) (u : Value), (zC S)[j]? = some u → (W.alloc (.cells (zC S).toArray T)).cell? ((⟨B, 0, none⟩ : Addr).add j) = some u := by
  subst hB
  intro j u hj
  have hadd : (⟨W.heap.size, 0, none⟩ : Addr).add j = ⟨W.heap.size, j, none⟩ := by unfold Addr.add; split <;> simp_all
  rw [hadd, (Blk.new W T (zC S).toArray).cell j]
  simpa using hj
theorem appendZ {w : World} {lo n c : Nat} {a1 : Option Addr} {l : List Ss} (S : Ss) (hn : n = l.length) (ho : w.ownsRow lo 33 5 (.slice a1 n c) n (flatZ l)) (hlo : lo ≤ w.heap.size) (hb : n ≤ 2097152) (ty : TypeId) :
    ∃ a3 c3 w', (Builtin.append_ #[39, 39] ty #[.slice a1 n c, .slice (some ⟨w.heap.size, 0, none⟩) 1 1]).run Try.prog (w.alloc (.cells #[.int .i64 S.ky, .int .i64 S.fr, .int .i64 S.tt, .int .i64 S.ct, .int .i64 S.sm] 33)) = .ok (.slice a3 (n + 1) c3) w' ∧
      w'.ownsRow lo 33 5 (.slice a3 (n + 1) c3) (n + 1) (flatZ (l ++ [S])) ∧ Below lo w w' ∧ w.grownBy w' (Value.slice a1 n c).ownBlock := by
  obtain ⟨i0, hi, hzz⟩ := Option.map_eq_some_iff.1 infoSession
  simp only [Prod.mk.injEq] at hzz
  obtain ⟨hz0, hz1, hz2⟩ := hzz
  obtain ⟨v', w', hr, h2, h3, _⟩ := run_append_own (P := Try.prog) (w.alloc (.cells (zC S).toArray 33)) lo 39 ty 33 i0 (.agg #[.int .i64 0, .int .i64 0, .int .i64 0, .int .i64 0, .int .i64 0]) 5 40 Try.underlying39 hi hz0 hz1 hz2 rfl (by decide) _ n _ (ho.alloc _) ⟨w.heap.size, 0, none⟩ 1 1 (zC S) rfl (newsZ rfl) (zC_ones S) (by unfold maxLen; omega) (by omega) (by simp; omega)
  obtain ⟨a3, c3, rfl⟩ := owns_shape h2
  refine ⟨a3, c3, w', hr, ?_, ((Below.refl lo w).alloc hlo _).trans (below_own (ho.alloc _) h3 (by simp; omega)), grown_trans (World.grownBy_alloc w _ _) h3⟩
  rw [flatZ_append]
  simpa [flatZ, flatR] using h2
/-- An empty row of the call's own, just laid. -/
theorem own0Z (W : World) (lo : Nat) (h : lo ≤ W.heap.size) : (W.alloc (.cells #[] 33)).ownsRow lo 33 5 (.slice (some ⟨W.heap.size, 0, none⟩) 0 0) 0 (flatZ []) :=
  World.ownsRow_lit (e := 33) (size := 5) W #[] 0 h (by unfold maxLen; omega) (by simp)
end Go.Proofs.Ytchbmnpajnlijaa
