/- Chapter 12: slices.Clone over frames. (made by tools/mkclonez.py) -/
import Derived.Test.YtneolndbhklboaaFmA
import Derived.Deep.RegionLaw
namespace Go.Proofs.Ytneolndbhklboaa
open Go.RowKit
theorem info_partsQ {t : TypeId} {z : Value} {a b : Nat} (h : (Try.prog.info? t).map (fun i => (i.zero, i.size, i.bytes)) = some (some z, a, b)) : ∃ i, Try.prog.info? t = some i ∧ i.zero = some z ∧ i.size = a ∧ i.bytes = b := by
  obtain ⟨i, hi, hzz⟩ := Option.map_eq_some_iff.1 h
  simp only [Prod.mk.injEq] at hzz
  exact ⟨i, hi, hzz.1, hzz.2.1, hzz.2.2⟩
theorem flatQ_ones (l : List Fm) : ∀ u ∈ flatQ l, u.oneCell' = true := by
  intro u hu
  simp only [flatQ, flatR, List.mem_flatMap] at hu
  obtain ⟨x, _, hx⟩ := hu
  simp only [qC, List.mem_cons, List.not_mem_nil, or_false] at hx
  rcases hx with rfl | rfl | rfl | rfl <;> rfl
/-- The cells of a slice that is not nil, by an address. -/
theorem Fms.cellsAt {w : World} {hi : Nat} {ad : Addr} {c : Nat} {l : List Fm} (h : Fms w hi (some ad) c l) : ∀ j u, (flatQ l)[j]? = some u → w.cell? (ad.add j) = some u := by
  intro j u hj
  have hl : j < l.length * 4 := by
    have := (List.getElem?_eq_some_iff.1 hj).1
    rwa [flatQ_len] at this
  obtain ⟨b, off, ha, hlt, hc⟩ := h.cells (by omega)
  injection ha with ha
  subst ha
  have e : (⟨b, off, none⟩ : Addr).add j = ⟨b, off + j, none⟩ := by
    by_cases h0 : j = 0
    · subst h0; rfl
    · simp [Addr.add, h0]
  have h1 := hc (j / 4) (by omega) (j % 4) (by omega)
  have e1 : off + j / 4 * 4 + j % 4 = off + j := by omega
  rw [e1] at h1
  have h2 := flatR_at qC 4 qD qC_len l (j / 4) (j % 4) (by omega) (by omega)
  have e2 : j / 4 * 4 + j % 4 = j := by omega
  rw [e2] at h2
  rw [e, h1, ← h2]
  exact hj
set_option maxRecDepth 100000 in
set_option maxHeartbeats 1000000 in
theorem cloneQ_any (a : Option Addr) (n c : Nat) (l : List Fm) (hi : Nat) (w : World) (hr : Fms w hi a c l) (hn : n = l.length) (hB : hi ≤ w.heap.size) (hlen : l.length ≤ 1048576) :
    Calls Try.prog 104 #[.slice a n c] w (FreshR qC 38 4 l w) := by
  subst hn
  obtain ⟨i0, hi0, hz0, hz1, hz2⟩ := info_partsQ infoFrame
  have q := fun (w : World) (a : Option Addr) (n c n' c' : Nat) => Lib.run_eql_slice_nil (P := Try.prog) w 24 38 a n c n' c' Try.underlying24
  cases a with
  | none =>
    have h0 : l = [] := by
      rcases hr.lies with h | ⟨_, _, h, _⟩
      · exact h
      · cases h
    subst h0
    have HP : Hid (FreshR qC 38 4 [] w (.returned (.slice none 0 0)) w) := ⟨none, 0, rfl, World.ownsRow_nil _ _ _ _, Below.refl _ _⟩
    clear hr
    go_enter Try.func104, Try.ntmps104
    go_wp2
    go_ret
    exact HP.out
  | some ad =>
    have HR := Lib.hid (hr.below ((Below.refl hi w).alloc hB (.cells #[] 38)))
    have HF := Lib.hid (flatQ_len l)
    clear hr
    go_enter Try.func104, Try.ntmps104
    go_wp2_with (at_builtin; refine wpList_append_own _ rfl _ _ 24 rfl w.heap.size 38 i0 (.agg #[.int .i64 0, .int .i64 0, .int .i64 0, .int .i64 0]) 4 32 Try.underlying24 hi0 hz0 hz1 hz2 rfl (by decide) _ _ _ rfl (World.ownsRow_made w #[] 0 (Nat.le_refl _) (Nat.zero_le _) rfl) ad l.length c (flatQ l) rfl HF.out (Fms.cellsAt HR.out) (flatQ_ones _) ?c3 ?c4 ?c5 ?_)
    case c3 => unfold maxLen; omega
    case c4 => omega
    case c5 => simp
    intro v' w1 hown' hg _
    have hown2 : w1.ownsRow w.heap.size 38 4 v' l.length (flatQ l) := by simpa using hown'
    clear hown'
    obtain ⟨a2, c2, rfl⟩ := owns_shape hown2
    have HP : Hid (FreshR qC 38 4 l w (.returned (.slice a2 l.length c2)) w1) := by
      refine ⟨a2, c2, rfl, hown2, ((Below.refl w.heap.size w).alloc (Nat.le_refl _) (.cells #[] 38)).trans (below_own (World.ownsRow_made (e := 38) (size := 4) w #[] 0 (Nat.le_refl _) (Nat.zero_le _) rfl) hg (by simp))⟩
    clear hown2 hg
    go_wp2
    go_ret
    exact HP.out
end Go.Proofs.Ytneolndbhklboaa
