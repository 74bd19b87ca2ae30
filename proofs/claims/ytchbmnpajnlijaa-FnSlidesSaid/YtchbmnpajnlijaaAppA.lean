/- (from XClone2, without shards) Contracts of chapter 5: slices.Clone over aggs, and the copies of a shard on both sides. -/
import Derived.LaidEql
import Derived.Lib.LazyBuf
import Derived.Lib.AppendZeros
import Derived.Deep.RegionLaw
import Derived.Test.YtchbmnpajnlijaaWin3
namespace Go.Proofs.Ytchbmnpajnlijaa
open Go.RowKit

theorem info_parts6 {t : TypeId} {z : Value} {a b : Nat} (h : (Try.prog.info? t).map (fun i => (i.zero, i.size, i.bytes)) = some (some z, a, b)) : ∃ i, Try.prog.info? t = some i ∧ i.zero = some z ∧ i.size = a ∧ i.bytes = b := by
  obtain ⟨i, hi, hzz⟩ := Option.map_eq_some_iff.1 h
  simp only [Prod.mk.injEq] at hzz
  exact ⟨i, hi, hzz.1, hzz.2.1, hzz.2.2⟩
theorem flatA_ones (l : List Ag) : ∀ u ∈ flatA l, u.oneCell' = true := by
  intro u hu
  simp only [flatA, flatR, List.mem_flatMap] at hu
  obtain ⟨x, _, hx⟩ := hu
  simp only [aC, List.mem_cons, List.not_mem_nil, or_false] at hx
  rcases hx with rfl | rfl | rfl | rfl | rfl | rfl <;> rfl
/-- The cells of a slice that is not nil, by an address. -/
theorem Ags.cellsAt {w : World} {hi : Nat} {ad : Addr} {c : Nat} {l : List Ag} (h : Ags w hi (some ad) c l) : ∀ j u, (flatA l)[j]? = some u → w.cell? (ad.add j) = some u := by
  intro j u hj
  have hl : j < l.length * 6 := by
    have := (List.getElem?_eq_some_iff.1 hj).1
    rwa [flatA_len] at this
  obtain ⟨b, off, ha, hlt, hc⟩ := h.cells (by omega)
  injection ha with ha
  subst ha
  have e : (⟨b, off, none⟩ : Addr).add j = ⟨b, off + j, none⟩ := by
    by_cases h0 : j = 0
    · subst h0; rfl
    · simp [Addr.add, h0]
  have h1 := hc (j / 6) (by omega) (j % 6) (by omega)
  have e1 : off + j / 6 * 6 + j % 6 = off + j := by omega
  rw [e1] at h1
  have h2 := flatR_at aC 6 aD aC_len l (j / 6) (j % 6) (by omega) (by omega)
  have e2 : j / 6 * 6 + j % 6 = j := by omega
  rw [e2] at h2
  rw [e, h1, ← h2]
  exact hj
/-- A row appended to: its shape. -/
theorem ownsR_shape {w : World} {lo n sz : Nat} {T : TypeId} {v : Value} {xs : List Value} (h : w.ownsRow lo T sz v n xs) : ∃ a c, v = .slice a n c := by
  rcases h.2 with ⟨rfl, rfl⟩ | ⟨g, cap, cur, rfl, _⟩
  · exact ⟨_, _, rfl⟩
  · exact ⟨_, _, rfl⟩

theorem newsA {W : World} {S : Ag} {T : TypeId} {B : Nat} (hB : W.heap.size = B) : ∀ (j : Nat) (u : Value), (aC S)[j]? = some u → (W.alloc (.cells (aC S).toArray T)).cell? ((⟨B, 0, none⟩ : Addr).add j) = some u := by
  subst hB
  intro j u hj
  have hadd : (⟨W.heap.size, 0, none⟩ : Addr).add j = ⟨W.heap.size, j, none⟩ := by unfold Addr.add; split <;> simp_all
  rw [hadd, (Blk.new W T (aC S).toArray).cell j]
  simpa using hj
theorem aC_ones (S : Ag) : ∀ u ∈ aC S, u.oneCell' = true := by
  intro u hu
  simp only [aC, List.mem_cons, List.not_mem_nil, or_false] at hu
  rcases hu with rfl | rfl | rfl | rfl | rfl | rfl <;> rfl
theorem step_append_run {P : Program} {w : World} {ops : Array Oper} {o : Oper} {a : Act} {K : Act → World → Prop} {Q : Exit → Act → World → Prop} {E : Prop} (hgd : o.guard = none) (s x : Operand) (t tn : TypeId)
    (ho : o.op = .call { callee := .builtin .append, args := #[s, x], argTypes := #[t, tn] }) (vs vx : Value) (hs : a.eval s = vs) (hx : a.eval x = vx)
    (v' : Value) (w' : World) (hr : (Builtin.append_ #[t, tn] o.type #[vs, vx]).run P w = .ok v' w') (h : K (a.put o.dst v') w') :
    if Region.wanted o (yielded ops a.tmps) = true then Oper.wp P o a w K Q else E := by
  have hw : Region.wanted o (yielded ops a.tmps) = true := by simp [Region.wanted, hgd]
  rw [if_pos hw]
  exact Lib.wp_append_run w s x t tn ho vs vx hs hx v' w' hr h
/-- A row and a block of another element type lie apart. -/
theorem own_blk_ne {w : World} {base g n sz : Nat} {e t : TypeId} {v : Value} {xs : List Value} {cs : Array Value} (h : w.ownsRow base e sz v n xs) (hg : Blk w g t cs) (hne : e ≠ t) : some g ≠ v.ownBlock := by
  rcases h.2 with ⟨rfl, _⟩ | ⟨g', cap, cur, rfl, _, hh, _⟩
  · simp [Value.ownBlock]
  · intro he
    have : g = g' := by simpa [Value.ownBlock] using he
    subst this
    unfold Blk at hg
    rw [hh] at hg
    injection hg with hg
    injection hg with _ ht
    exact hne ht
/-- One agg more behind a row of the call's own: all that is known. -/
theorem appendA {w : World} {lo n c : Nat} {a1 : Option Addr} {l : List Ag} (S : Ag) (hn : n = l.length) (ho : w.ownsRow lo 86 6 (.slice a1 n c) n (flatA l)) (hlo : lo ≤ w.heap.size) (hb : n ≤ 2097152) (ty : TypeId) :
    ∃ a3 c3 w', (Builtin.append_ #[45, 45] ty #[.slice a1 n c, .slice (some ⟨w.heap.size, 0, none⟩) 1 1]).run Try.prog (w.alloc (.cells #[.int .i64 S.win, .int .i64 S.key, .int .i64 S.cnt, .int .i64 S.sum, .int .i64 S.mn, .int .i64 S.mx] 86)) = .ok (.slice a3 (n + 1) c3) w' ∧
      w'.ownsRow lo 86 6 (.slice a3 (n + 1) c3) (n + 1) (flatA (l ++ [S])) ∧ Below lo w w' ∧ w.grownBy w' (Value.slice a1 n c).ownBlock := by
  obtain ⟨i0, hi0, hz0, hz1, hz2⟩ := info_parts6 infoAgg
  obtain ⟨v', w', hr, h2, h3, _⟩ := run_append_own (P := Try.prog) (w.alloc (.cells (aC S).toArray 86)) lo 45 ty 86 i0 (.agg #[.int .i64 0, .int .i64 0, .int .i64 0, .int .i64 0, .int .i64 0, .int .i64 0]) 6 48 Try.underlying45 hi0 hz0 hz1 hz2 rfl (by decide) _ n _ (ho.alloc _) ⟨w.heap.size, 0, none⟩ 1 1 (aC S) rfl (newsA rfl) (aC_ones S) (by unfold maxLen; omega) (by omega) (by simp; omega)
  obtain ⟨a3, c3, rfl⟩ := ownsR_shape h2
  refine ⟨a3, c3, w', hr, ?_, ((Below.refl lo w).alloc hlo _).trans (below_own (ho.alloc _) h3 (by simp; omega)), grown_trans (World.grownBy_alloc w _ _) h3⟩
  rw [flatA_append]
  simpa [flatA, flatR] using h2
end Go.Proofs.Ytchbmnpajnlijaa
