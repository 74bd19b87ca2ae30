/- One number more behind a row of the call's own (a row of ints). No program beyond its types. -/
import Derived.Test.YtneolndbhklboaaTick1
import Derived.Test.YtneolndbhklboaaRow
import Derived.Test.YtneolndbhklboaaMem
import Derived.Test.YtneolndbhklboaaIntS
import Derived.IntWalk
namespace Go.Proofs.Ytneolndbhklboaa
open Go.RowKit

theorem info_i64 : ∃ i, Try.prog.info? 3 = some i ∧ i.zero = some (.int .i64 0) ∧ i.size = 1 ∧ i.bytes = 8 := by
  obtain ⟨i, hi, hzz⟩ := Option.map_eq_some_iff.1 infoI64
  simp only [Prod.mk.injEq] at hzz
  exact ⟨i, hi, hzz.1, hzz.2.1, hzz.2.2⟩
theorem newsI {W : World} {x : Int} {B : Nat} (hB : W.heap.size = B) : ∀ (j : Nat) (u : Value), ([Value.int .i64 x])[j]? = some u → (W.alloc (.cells #[.int .i64 x] 3)).cell? ((⟨B, 0, none⟩ : Addr).add j) = some u := by
  subst hB
  intro j u hj
  have hadd : (⟨W.heap.size, 0, none⟩ : Addr).add j = ⟨W.heap.size, j, none⟩ := by unfold Addr.add; split <;> simp_all
  rw [hadd, (Blk.new W 3 #[.int .i64 x]).cell j]
  simpa using hj
/-- One number more behind a row of the call's own: all that is known. -/
theorem appendI {w : World} {lo n c : Nat} {a1 : Option Addr} {xs : List Int} (x : Int) (hn : n = xs.length) (ho : w.ownsRow lo 3 1 (.slice a1 n c) n (xs.map (Value.int .i64))) (hlo : lo ≤ w.heap.size) (hb : n ≤ 2097152) (ty : TypeId) :
    ∃ a3 c3 w', (Builtin.append_ #[31, 31] ty #[.slice a1 n c, .slice (some ⟨w.heap.size, 0, none⟩) 1 1]).run Try.prog (w.alloc (.cells #[.int .i64 x] 3)) = .ok (.slice a3 (n + 1) c3) w' ∧
      w'.ownsRow lo 3 1 (.slice a3 (n + 1) c3) (n + 1) ((xs ++ [x]).map (Value.int .i64)) ∧ Below lo w w' ∧ w.grownBy w' (Value.slice a1 n c).ownBlock := by
  obtain ⟨i0, hi0, hz0, hz1, hz2⟩ := info_i64
  obtain ⟨v', w', hr, h2, h3, _⟩ := run_append_own (P := Try.prog) (w.alloc (.cells #[.int .i64 x] 3)) lo 31 ty 3 i0 (.int .i64 0) 1 8 Try.underlying31 hi0 hz0 hz1 hz2 rfl (by decide) _ n _ (ho.alloc _) ⟨w.heap.size, 0, none⟩ 1 1 [.int .i64 x] rfl (newsI rfl) (by simp [Value.oneCell']) (by unfold maxLen; omega) (by omega) (by simp; omega)
  obtain ⟨a3, c3, rfl⟩ := owns_shape h2
  refine ⟨a3, c3, w', hr, ?_, ((Below.refl lo w).alloc hlo _).trans (below_own (ho.alloc _) h3 (by simp; omega)), grown_trans (World.grownBy_alloc w _ _) h3⟩
  simpa using h2
end Go.Proofs.Ytneolndbhklboaa
