/- (from XPlainAdd, without shards) A merge in a row of the call's own. -/
import Derived.Test.YtchbmnpajnlijaaWin4
import Derived.Test.YtchbmnpajnlijaaPutA
namespace Go.Proofs.Ytchbmnpajnlijaa
open Go.RowKit
theorem flatA_cons (S : Ag) (l : List Ag) : flatA (S :: l) = aC S ++ flatA l := rfl
theorem flatA_set (l : List Ag) (j : Nat) (hj : j < l.length) (x2 x3 x4 x5 : Int) :
    ((((flatA l).set (j * 6 + 2) (.int .i64 x2)).set (j * 6 + 3) (.int .i64 x3)).set (j * 6 + 4) (.int .i64 x4)).set (j * 6 + 5) (.int .i64 x5) = flatA (l.set j ⟨(ael l j).win, (ael l j).key, x2, x3, x4, x5⟩) := by
  have e2 : l = l.take j ++ ael l j :: l.drop (j + 1) := by
    have h1 : l.drop j = ael l j :: l.drop (j + 1) := rel_drop aD hj
    rw [← h1, List.take_append_drop]
  have hl : (flatA (l.take j)).length = j * 6 := by rw [flatA_len, List.length_take, Nat.min_eq_left (by omega)]
  have hs : ∀ T, l.set j T = l.take j ++ T :: l.drop (j + 1) := fun T => by
    rw [List.set_eq_take_append_cons_drop, if_pos hj]
  rw [hs]
  generalize ael l j = S at e2
  rw [e2, flatA_append, flatA_append, flatA_cons, flatA_cons]
  have e3 : (l.take j ++ S :: l.drop (j + 1)).take j = l.take j := by rw [List.take_append_of_le_length (by simp; omega), List.take_of_length_le (by simp; omega)]
  have e4 : (l.take j ++ S :: l.drop (j + 1)).drop (j + 1) = l.drop (j + 1) := by rw [← e2]
  rw [e3, e4]
  generalize flatA (l.take j) = A at hl
  generalize flatA (l.drop (j + 1)) = B
  rw [List.set_append_right _ _ (by omega), List.set_append_right _ _ (by omega), List.set_append_right _ _ (by omega), List.set_append_right _ _ (by omega), hl]
  rw [show j * 6 + 2 - j * 6 = 2 by omega, show j * 6 + 3 - j * 6 = 3 by omega, show j * 6 + 4 - j * 6 = 4 by omega, show j * 6 + 5 - j * 6 = 5 by omega]
  simp [aC]
theorem mergedTo.own {w w' : World} {lo g n c : Nat} {l : List Ag} {j : Nat} {T : TypeId} {cs : Array Value} {x2 x3 x4 x5 : Int} (h : mergedTo w g (j * 6) T cs x2 x3 x4 x5 w') (ho : w.ownsRow lo 86 6 (.slice (some ⟨g, 0, none⟩) n c) n (flatA l)) (hj : j < l.length) :
    w'.ownsRow lo 86 6 (.slice (some ⟨g, 0, none⟩) n c) n (flatA (l.set j ⟨(ael l j).win, (ael l j).key, x2, x3, x4, x5⟩)) := by
  unfold mergedTo at h
  subst h
  have h0 := (ho.alloc (.cells cs T)).drew.stored (j * 6 + 2) (.int .i64 x2)
  have h1 := h0.1.drew.stored (j * 6 + 3) (.int .i64 x3)
  have h2 := h1.1.drew.stored (j * 6 + 4) (.int .i64 x4)
  have h3 := h2.1.drew.stored (j * 6 + 5) (.int .i64 x5)
  rw [flatA_set l j hj] at h3
  exact h3.1
end Go.Proofs.Ytchbmnpajnlijaa
