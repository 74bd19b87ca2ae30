/- Chapter 12: RaiseJoin, both sides over one answer. -/
import Derived.Test.YtneolndbhklboaaRaiseJ
import Derived.Test.YtneolndbhklboaaRaiseJS
namespace Go.Proofs.Ytneolndbhklboaa
open Go.RowKit
theorem raiseJ_bad {L R : List Fm} {mk by_ x : Int} (h : raiseOkJ L R mk by_ x = false) : raiseJ ⟨L, R, mk⟩ by_ x = (⟨L, R, mk⟩, -1) := by simp [raiseJ, h]
theorem raiseJ_good {L R : List Fm} {mk by_ x : Int} (h : raiseOkJ L R mk by_ x = true) : raiseJ ⟨L, R, mk⟩ by_ x = (⟨ltTo L (max mk x + 1 - by_) L.length, ltTo R (max mk x + 1 - by_) R.length, max mk x⟩, (L.length : Int) + (R.length : Int) - ((ltTo L (max mk x + 1 - by_) L.length).length : Int) - ((ltTo R (max mk x + 1 - by_) R.length).length : Int)) := by simp [raiseJ, h, leastJ]
theorem raiseJ_len {L R : List Fm} {mk by_ x : Int} : (raiseJ ⟨L, R, mk⟩ by_ x).1.l.length ≤ L.length ∧ (raiseJ ⟨L, R, mk⟩ by_ x).1.r.length ≤ R.length := by
  cases h : raiseOkJ L R mk by_ x
  · rw [raiseJ_bad h]; exact ⟨Nat.le_refl _, Nat.le_refl _⟩
  · rw [raiseJ_good h]; exact ⟨lt_len (Nat.le_refl _), lt_len (Nat.le_refl _)⟩
theorem iRaise_any (a b : Option Addr) (c d : Nat) (L R : List Fm) (mk by_ x : Int) (hi : Nat) (w : World) (h1 : Fms w hi a c L) (h2 : Fms w hi b d R) (hB : hi ≤ w.heap.size) (hl1 : L.length ≤ 1048576) (hl2 : R.length ≤ 1048576) :
    Calls Try.prog 56 #[.agg #[.slice a L.length c, .slice b R.length d, .int .i64 mk], .int .i64 by_, .int .i64 x] w (RaisePost (raiseJ ⟨L, R, mk⟩ by_ x).1.l (raiseJ ⟨L, R, mk⟩ by_ x).1.r (raiseJ ⟨L, R, mk⟩ by_ x).1.m (raiseJ ⟨L, R, mk⟩ by_ x).2 w) := by
  cases hj : joinOkJ L R mk
  · rw [raiseJ_bad (by simp [raiseOkJ, hj])]
    exact iRaise_bad1 a b c d L R mk by_ x hi w h1 h2 hB hl1 hl2 hj
  · cases hx : inB x (-1) 1000000
    · rw [raiseJ_bad (by simp [raiseOkJ, hx])]
      exact iRaise_bad2 a b c d L R mk by_ x hi w h1 h2 hB hl1 hl2 hj hx
    · cases ht : inB by_ 0 1000000
      · rw [raiseJ_bad (by simp [raiseOkJ, ht])]
        exact iRaise_bad3 a b c d L R mk by_ x hi w h1 h2 hB hl1 hl2 hj hx ht
      · rw [raiseJ_good (by simp [raiseOkJ, hj, hx, ht])]
        by_cases hlt : mk < x
        · rw [Int.max_eq_right (by omega)]
          exact iRaise_rise a b c d L R mk by_ x hi w h1 h2 hB hl1 hl2 hj hx ht hlt _ _ rfl rfl
        · rw [Int.max_eq_left (by omega)]
          exact iRaise_stay a b c d L R mk by_ x hi w h1 h2 hB hl1 hl2 hj hx ht hlt _ _ rfl rfl
theorem sRaise_any (a b : Option Addr) (c d : Nat) (L R : List Fm) (mk by_ x : Int) (hi : Nat) (w : World) (h1 : Fms w hi a c L) (h2 : Fms w hi b d R) (hB : hi ≤ w.heap.size) (hl1 : L.length ≤ 1048576) (hl2 : R.length ≤ 1048576) :
    Calls Try.prog 55 #[.agg #[.slice a L.length c, .slice b R.length d, .int .i64 mk], .int .i64 by_, .int .i64 x] w (RaisePost (raiseJ ⟨L, R, mk⟩ by_ x).1.l (raiseJ ⟨L, R, mk⟩ by_ x).1.r (raiseJ ⟨L, R, mk⟩ by_ x).1.m (raiseJ ⟨L, R, mk⟩ by_ x).2 w) := by
  cases hj : joinOkJ L R mk
  · rw [raiseJ_bad (by simp [raiseOkJ, hj])]
    exact sRaise_bad1 a b c d L R mk by_ x hi w h1 h2 hB hl1 hl2 hj
  · cases hx : inB x (-1) 1000000
    · rw [raiseJ_bad (by simp [raiseOkJ, hx])]
      exact sRaise_bad2 a b c d L R mk by_ x hi w h1 h2 hB hl1 hl2 hj hx
    · cases ht : inB by_ 0 1000000
      · rw [raiseJ_bad (by simp [raiseOkJ, ht])]
        exact sRaise_bad3 a b c d L R mk by_ x hi w h1 h2 hB hl1 hl2 hj hx ht
      · rw [raiseJ_good (by simp [raiseOkJ, hj, hx, ht])]
        exact sRaise_good a b c d L R mk by_ x hi w h1 h2 hB hl1 hl2 hj hx ht
end Go.Proofs.Ytneolndbhklboaa
