/- Plain: aggs put into a list one by one, and a sorted list's neighbours put together: the same. No program. -/
import Derived.Test.YtchbmnpajnlijaaRt
namespace Go.Proofs.Ytchbmnpajnlijaa
open Stab
theorem alike_same (S T : Ag) : alike aheadA S T = sameA S T := by
  unfold alike aheadA sameA
  by_cases h : S.win = T.win ∧ S.key = T.key
  · simp [h.1, h.2]
  · simp only [h, decide_false, Bool.and_eq_false_iff, Bool.not_eq_false', decide_eq_true_eq]
    omega
/-- An agg put at its place, merged with one that is alike. -/
def putA : List Ag → Ag → List Ag
  | [], a => [a]
  | x :: l, a => if sameA x a = true then sumA x a :: l else if aheadA a x = true then a :: x :: l else x :: putA l a
/-- What is in a list, kind by kind. -/
def comb : List Ag → List Ag → List Ag
  | [], [] => []
  | [], y :: ys => [ys.foldl sumA y]
  | x :: xs, ys => ys.foldl sumA x :: xs
theorem same_sum (c x a : Ag) : sameA c (sumA x a) = sameA c x := by unfold sameA sumA; rfl
theorem ahead_sum_left (c x a : Ag) : aheadA (sumA x a) c = aheadA x c := by unfold aheadA sumA; rfl
theorem ahead_sum_right (c x a : Ag) : aheadA c (sumA x a) = aheadA c x := by unfold aheadA sumA; rfl
theorem same_symm {S T : Ag} (h : sameA S T = true) : sameA T S = true := by unfold sameA at *; simp only [decide_eq_true_eq] at *; omega
theorem same_trans {R S T : Ag} (h : sameA R S = true) (k : sameA S T = true) : sameA R T = true := by unfold sameA at *; simp only [decide_eq_true_eq] at *; omega
theorem same_ahead {R S T : Ag} (h : sameA R S = true) : aheadA R T = aheadA S T := by
  unfold sameA at h; unfold aheadA
  simp only [decide_eq_true_eq] at h
  rw [h.1, h.2]
theorem same_ahead' {R S T : Ag} (h : sameA R S = true) : aheadA T R = aheadA T S := by
  unfold sameA at h; unfold aheadA
  simp only [decide_eq_true_eq] at h
  rw [h.1, h.2]
theorem ahead_not_same {S T : Ag} (h : aheadA S T = true) : sameA S T = false := by
  unfold aheadA at h; unfold sameA
  simp only [decide_eq_true_eq, decide_eq_false_iff_not] at *
  omega
theorem ahead_not_same' {S T : Ag} (h : aheadA S T = true) : sameA T S = false := by
  unfold aheadA at h; unfold sameA
  simp only [decide_eq_true_eq, decide_eq_false_iff_not] at *
  omega
theorem ahead_tri {S T : Ag} (h : sameA S T = false) (k : aheadA T S = false) : aheadA S T = true := by
  unfold sameA at h; unfold aheadA at *
  simp only [decide_eq_true_eq, decide_eq_false_iff_not] at *
  omega
theorem ahead_trans3 {R S T : Ag} (h : aheadA R S = true) (k : aheadA S T = true) : aheadA R T = true := by
  unfold aheadA at *
  simp only [decide_eq_true_eq] at *
  omega
/-- Strictly rising. -/
def Asc (l : List Ag) : Prop := l.Pairwise fun S T => aheadA S T = true
theorem Asc.srt {l : List Ag} (h : Asc l) : Srt aheadA l := List.Pairwise.imp (fun h => swoA.asymm _ _ h) h
theorem mem_put {l : List Ag} {a y : Ag} (h : y ∈ putA l a) : y = a ∨ y ∈ l ∨ ∃ x, x ∈ l ∧ sameA x a = true ∧ y = sumA x a := by
  induction l with
  | nil => exact .inl (List.mem_singleton.1 h)
  | cons x l ih =>
    unfold putA at h
    split at h
    · rename_i hs
      rcases List.mem_cons.1 h with h | h
      · exact .inr (.inr ⟨x, by simp, hs, h⟩)
      · exact .inr (.inl (by simp [h]))
    · split at h
      · rcases List.mem_cons.1 h with h | h
        · exact .inl h
        · exact .inr (.inl h)
      · rcases List.mem_cons.1 h with h | h
        · exact .inr (.inl (by simp [h]))
        · rcases ih h with h | h | ⟨z, h1, h2, h3⟩
          · exact .inl h
          · exact .inr (.inl (by simp [h]))
          · exact .inr (.inr ⟨z, by simp [h1], h2, h3⟩)
theorem put_asc {l : List Ag} (a : Ag) (h : Asc l) : Asc (putA l a) := by
  induction l with
  | nil => exact List.pairwise_singleton _ _
  | cons x l ih =>
    have hc := List.pairwise_cons.1 h
    unfold putA
    split
    · rename_i hs
      exact List.pairwise_cons.2 ⟨fun y hy => by rw [ahead_sum_left]; exact hc.1 y hy, hc.2⟩
    · rename_i hs
      split
      · rename_i ha
        refine List.pairwise_cons.2 ⟨fun y hy => ?_, h⟩
        rcases List.mem_cons.1 hy with rfl | hy
        · exact ha
        · exact ahead_trans3 ha (hc.1 y hy)
      · rename_i ha
        refine List.pairwise_cons.2 ⟨fun y hy => ?_, ih hc.2⟩
        rcases mem_put hy with rfl | hy | ⟨z, hz, _, rfl⟩
        · exact ahead_tri (by simpa using hs) (by simpa using ha)
        · exact hc.1 y hy
        · rw [ahead_sum_right]; exact hc.1 z hz
theorem put_filter {l : List Ag} (a c : Ag) (h : Asc l) : (putA l a).filter (sameA c) = if sameA c a = true then comb (l.filter (sameA c)) [a] else l.filter (sameA c) := by
  induction l with
  | nil =>
    unfold putA
    by_cases hc : sameA c a = true
    · simp [hc, comb]
    · simp [hc]
  | cons x l ih =>
    have hp := List.pairwise_cons.1 h
    unfold putA
    split
    · rename_i hs
      by_cases hc : sameA c a = true
      · have hx : sameA c x = true := same_trans hc (same_symm hs)
        rw [List.filter_cons_of_pos (by rw [same_sum]; exact hx), List.filter_cons_of_pos hx, if_pos hc]
        rfl
      · have hx : ¬ sameA c x = true := fun h9 => hc (same_trans h9 hs)
        rw [List.filter_cons_of_neg (by rw [same_sum]; exact hx), List.filter_cons_of_neg hx, if_neg hc]
    · rename_i hs
      split
      · rename_i ha
        by_cases hc : sameA c a = true
        · have hnil : (x :: l).filter (sameA c) = [] := List.filter_eq_nil_iff.2 fun y hy h9 => by
            have h8 : aheadA a y = true := by
              rcases List.mem_cons.1 hy with rfl | hy
              · exact ha
              · exact ahead_trans3 ha (hp.1 y hy)
            have := ahead_not_same h8
            rw [same_trans (same_symm hc) h9] at this
            cases this
          rw [List.filter_cons_of_pos hc, hnil, if_pos hc]
          rfl
        · rw [List.filter_cons_of_neg hc, if_neg hc]
      · rename_i ha
        have e := ih hp.2
        by_cases hx : sameA c x = true
        · have hca : ¬ sameA c a = true := fun h9 => hs (same_trans (same_symm hx) h9)
          rw [List.filter_cons_of_pos hx, List.filter_cons_of_pos hx, e, if_neg hca, if_neg hca]
        · rw [List.filter_cons_of_neg hx, List.filter_cons_of_neg hx, e]
theorem comb_nil (l : List Ag) : comb l [] = l := by cases l <;> rfl
theorem comb_snoc (l ys : List Ag) (y : Ag) : comb (comb l [y]) ys = comb l (y :: ys) := by cases l <;> rfl
/-- Aggs put into a list one by one. -/
def foldP (l0 l : List Ag) : List Ag := l.foldl putA l0
theorem foldP_nil (l0 : List Ag) : foldP l0 [] = l0 := rfl
theorem foldP_cons (l0 l : List Ag) (a : Ag) : foldP l0 (a :: l) = foldP (putA l0 a) l := rfl
theorem foldP_snoc (l0 l : List Ag) (a : Ag) : foldP l0 (l ++ [a]) = putA (foldP l0 l) a := by simp [foldP, List.foldl_append]
theorem foldP_append (l0 l m : List Ag) : foldP l0 (l ++ m) = foldP (foldP l0 l) m := by simp [foldP, List.foldl_append]
theorem foldP_asc (l : List Ag) : ∀ {l0 : List Ag}, Asc l0 → Asc (foldP l0 l) := by
  induction l with
  | nil => intro l0 h; exact h
  | cons a l ih => intro l0 h; exact ih (put_asc a h)
theorem foldP_filter (c : Ag) (l : List Ag) : ∀ {l0 : List Ag}, Asc l0 → (foldP l0 l).filter (sameA c) = comb (l0.filter (sameA c)) (l.filter (sameA c)) := by
  induction l with
  | nil => intro l0 _; rw [List.filter_nil, comb_nil]; rfl
  | cons a l ih =>
    intro l0 h
    rw [foldP_cons, ih (put_asc a h), put_filter a c h]
    by_cases hc : sameA c a = true
    · rw [if_pos hc, List.filter_cons_of_pos hc, comb_snoc]
    · rw [if_neg hc, List.filter_cons_of_neg hc]
theorem asc_nil : Asc [] := List.Pairwise.nil
theorem foldP_len (l : List Ag) : ∀ (l0 : List Ag), (foldP l0 l).length ≤ l0.length + l.length := by
  have hp : ∀ (l0 : List Ag) a, (putA l0 a).length ≤ l0.length + 1 := by
    intro l0 a
    induction l0 with
    | nil => simp [putA]
    | cons x l0 ih => unfold putA; split; · simp
                      split
                      · simp
                      · simp; omega
  induction l with
  | nil => intro l0; simp [foldP]
  | cons a l ih => intro l0; rw [foldP_cons]; have := ih (putA l0 a); have := hp l0 a; simp; omega
/-- A list sorted so that what is alike keeps its order is put together as the list is. -/
theorem foldP_sts {Z W : List Ag} (h : StS aheadA Z W) : foldP [] Z = foldP [] W := by
  refine srt_unique swoA (foldP_asc Z asc_nil).srt (foldP_asc W asc_nil).srt fun c => ?_
  have e : (alike aheadA c : Ag → Bool) = sameA c := funext fun x => alike_same c x
  rw [e, foldP_filter c Z asc_nil, foldP_filter c W asc_nil]
  have := h.kin.kin c
  rw [e] at this
  rw [this]
theorem put_end {l : List Ag} {a : Ag} (h : ∀ x, x ∈ l → sameA x a = false ∧ aheadA a x = false) : putA l a = l ++ [a] := by
  induction l with
  | nil => rfl
  | cons x l ih =>
    have h1 := h x (by simp)
    unfold putA
    rw [if_neg (by simp [h1.1]), if_neg (by simp [h1.2]), ih fun y hy => h y (by simp [hy])]
    rfl
theorem put_last {l : List Ag} {x a : Ag} (h : Asc (l ++ [x])) (hs : sameA x a = true) : putA (l ++ [x]) a = l ++ [sumA x a] := by
  induction l with
  | nil => show putA [x] a = _; unfold putA; rw [if_pos hs]; rfl
  | cons y l ih =>
    have hc := List.pairwise_cons.1 (show Asc (y :: (l ++ [x])) from h)
    have hy := hc.1 x (by simp)
    have h1 : sameA y a = false := by
      cases e : sameA y a with
      | false => rfl
      | true => have := ahead_not_same hy; rw [same_trans e (same_symm hs)] at this; cases this
    have h2 : aheadA a y = false := by rw [← same_ahead hs]; exact swoA.asymm _ _ hy
    show putA (y :: (l ++ [x])) a = _
    unfold putA
    rw [if_neg (by simp [h1]), if_neg (by simp [h2]), ih hc.2]
    rfl
theorem put_more {l : List Ag} {x a : Ag} (h : Asc (l ++ [x])) (hs : sameA x a = false) (ha : aheadA a x = false) : putA (l ++ [x]) a = l ++ [x] ++ [a] := by
  refine put_end fun y hy => ?_
  have hxa := ahead_tri hs ha
  rcases List.mem_append.1 hy with hy | hy
  · have h1 := (List.pairwise_append.1 h).2.2 y hy x (by simp)
    have h2 := ahead_trans3 h1 hxa
    exact ⟨ahead_not_same h2, swoA.asymm _ _ h2⟩
  · obtain rfl := List.mem_singleton.1 hy
    exact ⟨hs, ha⟩
/-- Of a sorted list the next one is not ahead of any that is there. -/
theorem foldP_le {Z : List Ag} {k : Nat} (hs : Srt aheadA Z) (hk : k < Z.length) {x : Ag} (hx : x ∈ foldP [] (Z.take k)) : aheadA (ael Z k) x = false := by
  have h1 : x ∈ (foldP [] (Z.take k)).filter (sameA x) := List.mem_filter.2 ⟨hx, by rw [← alike_same]; exact swoA.self x⟩
  rw [foldP_filter x _ asc_nil] at h1
  have h2 : (Z.take k).filter (sameA x) ≠ [] := fun e => by rw [e] at h1; simp [comb] at h1
  obtain ⟨z, hz⟩ := List.exists_mem_of_ne_nil _ h2
  obtain ⟨hz, hxz⟩ := List.mem_filter.1 hz
  obtain ⟨t, ht, rfl⟩ := List.mem_iff_getElem.1 hz
  rw [List.length_take] at ht
  rw [same_ahead' hxz]
  have := List.pairwise_iff_getElem.1 hs t k (by omega) hk (by omega)
  rw [show ael Z k = Z[k] from rel_lt aD hk, List.getElem_take]
  exact this
end Go.Proofs.Ytchbmnpajnlijaa
