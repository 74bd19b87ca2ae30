/- Plain: what AddEvent answers. No program. -/
import Derived.Test.YtnnpppdgkbmieaaAdd1
import Derived.Test.YtnnpppdgkbmieaaPlace
import Derived.Test.YtnnpppdgkbmieaaRaise
namespace Go.Proofs.Ytnnpppdgkbmieaa
open Go.RowKit

structure AddR where
  l : List Ag
  lt : Int
  ov : Int
  c : Int
noncomputable def addGood (l : List Ag) (mk lt ov sz rm k y t v : Int) : Bool := sokB l mk lt ov && (inB sz 1 1000000 && (inB rm 1 40 && isEv k y t v))
def oneA (X y v : Int) : Ag := ⟨X, y, 1, v, v, v⟩
noncomputable def addR (l : List Ag) (mk lt ov sz rm k y t v : Int) : AddR :=
  if addGood l mk lt ov sz rm k y t v = true then
    if windowEnd (windowOf t sz) sz ≤ mk then ⟨l, capS (lt + 1), ov, 1⟩
    else if foundB l (oneA (windowOf t sz) y v) = true then ⟨l.set (placeN l (oneA (windowOf t sz) y v)) (sumA (ael l (placeN l (oneA (windowOf t sz) y v))) (oneA (windowOf t sz) y v)), lt, ov, 0⟩
    else if rm ≤ (l.length : Int) then ⟨l, lt, capS (ov + 1), 2⟩
    else ⟨putIn l (placeN l (oneA (windowOf t sz) y v)) (oneA (windowOf t sz) y v), lt, ov, 0⟩
  else ⟨l, lt, ov, 3⟩
section
variable {l : List Ag} {mk lt ov sz rm k y t v : Int}
theorem addR_no1 (h : sokB l mk lt ov = false) : addR l mk lt ov sz rm k y t v = ⟨l, lt, ov, 3⟩ := by simp [addR, addGood, h]
theorem addR_no2 (h : inB sz 1 1000000 = false) : addR l mk lt ov sz rm k y t v = ⟨l, lt, ov, 3⟩ := by simp [addR, addGood, h]
theorem addR_no3 (h : inB rm 1 40 = false) : addR l mk lt ov sz rm k y t v = ⟨l, lt, ov, 3⟩ := by simp [addR, addGood, h]
theorem addR_no4 (h : isEv k y t v = false) : addR l mk lt ov sz rm k y t v = ⟨l, lt, ov, 3⟩ := by simp [addR, addGood, h]
theorem addGood_yes (h1 : sokB l mk lt ov = true) (h2 : inB sz 1 1000000 = true) (h3 : inB rm 1 40 = true) (h4 : isEv k y t v = true) : addGood l mk lt ov sz rm k y t v = true := by simp [addGood, h1, h2, h3, h4]
theorem addR_late (h : addGood l mk lt ov sz rm k y t v = true) (h1 : windowEnd (windowOf t sz) sz ≤ mk) : addR l mk lt ov sz rm k y t v = ⟨l, capS (lt + 1), ov, 1⟩ := by unfold addR; rw [if_pos h, if_pos h1]
theorem addR_found (h : addGood l mk lt ov sz rm k y t v = true) (h1 : ¬ windowEnd (windowOf t sz) sz ≤ mk) (h2 : foundB l (oneA (windowOf t sz) y v) = true) : addR l mk lt ov sz rm k y t v = ⟨l.set (placeN l (oneA (windowOf t sz) y v)) (sumA (ael l (placeN l (oneA (windowOf t sz) y v))) (oneA (windowOf t sz) y v)), lt, ov, 0⟩ := by unfold addR; rw [if_pos h, if_neg h1, if_pos h2]
theorem addR_full (h : addGood l mk lt ov sz rm k y t v = true) (h1 : ¬ windowEnd (windowOf t sz) sz ≤ mk) (h2 : foundB l (oneA (windowOf t sz) y v) = false) (h3 : rm ≤ (l.length : Int)) : addR l mk lt ov sz rm k y t v = ⟨l, lt, capS (ov + 1), 2⟩ := by unfold addR; rw [if_pos h, if_neg h1, if_neg (by rw [h2]; simp), if_pos h3]
theorem addR_put (h : addGood l mk lt ov sz rm k y t v = true) (h1 : ¬ windowEnd (windowOf t sz) sz ≤ mk) (h2 : foundB l (oneA (windowOf t sz) y v) = false) (h3 : ¬ rm ≤ (l.length : Int)) : addR l mk lt ov sz rm k y t v = ⟨putIn l (placeN l (oneA (windowOf t sz) y v)) (oneA (windowOf t sz) y v), lt, ov, 0⟩ := by unfold addR; rw [if_pos h, if_neg h1, if_neg (by rw [h2]; simp), if_neg h3]
end
theorem placeN_le (l : List Ag) (S : Ag) : placeN l S ≤ l.length := by unfold placeN; exact (List.takeWhile_prefix _).length_le
theorem foundB_lt {l : List Ag} {S : Ag} (h : foundB l S = true) : placeN l S < l.length ∧ cmpA (ael l (placeN l S)) S = 0 := by
  unfold foundB at h
  simpa using h
/-- Four cells of one agg written. -/
theorem flatA_set (l : List Ag) (j : Nat) (hj : j < l.length) (x2 x3 x4 x5 : Int) :
    ((((flatA l).set (j * 6 + 2) (.int .i64 x2)).set (j * 6 + 3) (.int .i64 x3)).set (j * 6 + 4) (.int .i64 x4)).set (j * 6 + 5) (.int .i64 x5) = flatA (l.set j ⟨(ael l j).win, (ael l j).key, x2, x3, x4, x5⟩) := by
  have e2 : l = l.take j ++ ael l j :: l.drop (j + 1) := by
    have h1 : l.drop j = ael l j :: l.drop (j + 1) := rel_drop aD hj
    rw [← h1, List.take_append_drop]
  have hl : (flatA (l.take j)).length = j * 6 := by rw [flatA_len, List.length_take, Nat.min_eq_left (by omega)]
  have hs : ∀ T, l.set j T = l.take j ++ T :: l.drop (j + 1) := fun T => by
    rw [List.set_eq_take_append_cons_drop, if_pos hj]
  rw [hs]
  generalize ael l j = S at e2
  rw [e2, flatA_append, flatA_append, flatA_cons, flatA_cons]
  have e3 : (l.take j ++ S :: l.drop (j + 1)).take j = l.take j := by rw [List.take_append_of_le_length (by simp; omega), List.take_of_length_le (by simp; omega)]
  have e4 : (l.take j ++ S :: l.drop (j + 1)).drop (j + 1) = l.drop (j + 1) := by rw [← e2]
  rw [e3, e4]
  generalize flatA (l.take j) = A at hl
  generalize flatA (l.drop (j + 1)) = B
  rw [List.set_append_right _ _ (by omega), List.set_append_right _ _ (by omega), List.set_append_right _ _ (by omega), List.set_append_right _ _ (by omega), hl]
  rw [show j * 6 + 2 - j * 6 = 2 by omega, show j * 6 + 3 - j * 6 = 3 by omega, show j * 6 + 4 - j * 6 = 4 by omega, show j * 6 + 5 - j * 6 = 5 by omega]
  simp [aC]
theorem mergedTo.own {w w' : World} {lo g n c : Nat} {l : List Ag} {j : Nat} {T : TypeId} {cs : Array Value} {x2 x3 x4 x5 : Int} (h : mergedTo w g (j * 6) T cs x2 x3 x4 x5 w') (ho : w.ownsRow lo 44 6 (.slice (some ⟨g, 0, none⟩) n c) n (flatA l)) (hj : j < l.length) :
    w'.ownsRow lo 44 6 (.slice (some ⟨g, 0, none⟩) n c) n (flatA (l.set j ⟨(ael l j).win, (ael l j).key, x2, x3, x4, x5⟩)) := by
  unfold mergedTo at h
  subst h
  have h0 := (ho.alloc (.cells cs T)).drew.stored (j * 6 + 2) (.int .i64 x2)
  have h1 := h0.1.drew.stored (j * 6 + 3) (.int .i64 x3)
  have h2 := h1.1.drew.stored (j * 6 + 4) (.int .i64 x4)
  have h3 := h2.1.drew.stored (j * 6 + 5) (.int .i64 x5)
  rw [flatA_set l j hj] at h3
  exact h3.1
theorem isEv_v {k y t v : Int} (h : isEv k y t v = true) : -1000000 ≤ v ∧ v ≤ 1000000 := by
  unfold isEv at h
  simp only [Bool.and_eq_true, decide_eq_true_eq] at h
  obtain ⟨rfl, h2⟩ := h
  rw [fOk_event] at h2
  simp only [Bool.and_eq_true] at h2
  exact inB_bd h2.2
/-- A shard and a code, in memory of the call's own. -/
def FreshShardI (R : AddR) (mk : Int) (w : World) (e : Ending) (w' : World) : Prop :=
  ∃ a c, e = .returned (.tuple #[.agg #[.slice a R.l.length c, .int .i64 mk, .int .i64 R.lt, .int .i64 R.ov], .int .i64 R.c]) ∧ w'.ownsRow w.heap.size 44 6 (.slice a R.l.length c) R.l.length (flatA R.l) ∧ Below w.heap.size w w'
end Go.Proofs.Ytnnpppdgkbmieaa
