/- Plain: what the model's TakeFrame computes is what tkHere and tkMore say. No program. -/
import Derived.Test.YtnfhlfbkdhpacaaGreatDoorJoint1
namespace Go.Proofs.YtnfhlfbkdhpacaaGreatDoor

theorem num1_el (ys : List Int) : numL 1 ys = el ys 0 := by
  rcases ys with _ | ⟨x, ys⟩ <;> simp [numL, readL, el]
theorem num2_el (ys : List Int) : numL 2 ys = el ys 0 * 256 + el ys 1 := by
  rcases ys with _ | ⟨x, _ | ⟨y, ys⟩⟩ <;> simp [numL, readL, el]
theorem num3_el (ys : List Int) : numL 3 ys = (el ys 0 * 256 + el ys 1) * 256 + el ys 2 := by
  rcases ys with _ | ⟨x, _ | ⟨y, _ | ⟨z, ys⟩⟩⟩ <;> simp [numL, readL, el] <;> omega
theorem el_drop (xs : List Int) (m i : Nat) : el (xs.drop m) i = el xs (m + i) := by simp [el, List.getD]
theorem el_far (xs : List Int) (i : Nat) (h : xs.length ≤ i) : el xs i = 0 := by simp [el, List.getD, List.getElem?_eq_none h]
theorem ext_el {a b : List Int} (hl : a.length = b.length) (h : ∀ i, i < a.length → el a i = el b i) : a = b := by
  apply List.ext_getElem hl
  intro i h1 h2
  have := h i h1
  simpa [el, List.getD, h1, h2] using this
theorem prefix_el (a b : List Int) : a.isPrefixOf b = true ↔ a.length ≤ b.length ∧ ∀ i, i < a.length → el a i = el b i := by
  rw [List.isPrefixOf_iff_prefix, List.prefix_iff_eq_take]
  constructor
  · intro h
    have hl : a.length ≤ b.length := by
      have := congrArg List.length h
      rw [List.length_take] at this
      omega
    refine ⟨hl, fun i hi => ?_⟩
    have e : el (b.take a.length) i = el b i := by simp [el, List.getD, hi]
    rw [← e, ← h]
  · rintro ⟨hl, h⟩
    refine ext_el (by rw [List.length_take]; omega) fun i hi => ?_
    have e : el (b.take a.length) i = el b i := by simp [el, List.getD, hi]
    rw [e]; exact h i hi

/-- How long a kind's body is. -/
def sizeK (k : Int) : Int := if k = 1 then 9 else if k = 2 then 4 else if k = 3 then 1 else 0
/-- What the model reads from a whole body. -/
def sY (b : List Int) : Int := if el b 0 = 1 then el b 1 * 256 + el b 2 else 0
def sT (b : List Int) : Int := if el b 0 = 1 then (el b 3 * 256 + el b 4) * 256 + el b 5 else if el b 0 = 2 then (el b 1 * 256 + el b 2) * 256 + el b 3 else 0
def sV (b : List Int) : Int := if el b 0 = 1 then (el b 6 * 256 + el b 7) * 256 + el b 8 - 1000000 else 0
def frOkS (b : List Int) : Bool := decide ((b.length : Int) = sizeK (el b 0)) && fOk (el b 0) (sY b) (sT b) (sV b)
/-- The body behind the length, filled up with noughts. -/
def padB (n : Nat) (xs : List Int) : List Int := (xs.drop 1).take n ++ List.replicate (n - ((xs.drop 1).take n).length) 0
theorem padB_len (n : Nat) (xs : List Int) : (padB n xs).length = n := by simp [padB]; omega
theorem padB_el (n : Nat) (xs : List Int) (i : Nat) (hi : i < n) : el (padB n xs) i = el xs (1 + i) := by
  unfold padB
  by_cases h : i < ((xs.drop 1).take n).length
  · have e : el ((xs.drop 1).take n ++ List.replicate (n - ((xs.drop 1).take n).length) 0) i = el ((xs.drop 1).take n) i := by simp only [el, List.getD]; rw [List.getElem?_append_left h]
    rw [e, ← el_drop]
    simp [el, List.getD, hi]
  · have e : el ((xs.drop 1).take n ++ List.replicate (n - ((xs.drop 1).take n).length) 0) i = 0 := by
      simp only [el, List.getD]
      rw [List.getElem?_append_right (by omega), List.getElem?_replicate]
      split <;> rfl
    rw [e, el_far]
    simp only [List.length_take, List.length_drop] at h
    omega
def agree (xs full : List Int) : Bool := decide (∀ i, i < min xs.length full.length → el xs i = el full i)
/-- What the model's l02Begins answers. -/
def begS (xs : List Int) : Bool :=
  if xs.length = 0 then true else if ¬ (el xs 0 = 9 ∨ el xs 0 = 4 ∨ el xs 0 = 1) then false else if xs.length = 1 then true else if sizeK (el xs 1) ≠ el xs 0 then false
  else if frOkS (padB (el xs 0).toNat xs) = false then false else if (xs.length : Int) ≤ el xs 0 then true
  else agree xs (putL (el (padB (el xs 0).toNat xs) 0) (sY (padB (el xs 0).toNat xs)) (sT (padB (el xs 0).toNat xs)) (sV (padB (el xs 0).toNat xs)))

/-- The least frame's bytes, where it is one: all but the kind and the check sum are what stands there. -/
theorem put0_shape (xs : List Int) (hx : IsB xs) (n : Nat) (hn : n = 9 ∨ n = 4 ∨ n = 1) (h0 : el xs 0 = n) (hne : put0 xs ≠ []) :
    (put0 xs).length = n + 5 ∧ sizeK (el (put0 xs) 1) = n ∧ (1 ≤ el (put0 xs) 1 ∧ el (put0 xs) 1 ≤ 3) ∧ ∀ i, i ≤ n → i ≠ 1 → el (put0 xs) i = el xs i := by
  have hb := fun i => el_bd hx i
  rcases hn with rfl | rfl | rfl
  · have hok : fOk (f0K xs) (f0Y xs) (f0T xs) (f0V xs) = true := by
      cases h : fOk (f0K xs) (f0Y xs) (f0T xs) (f0V xs) with
      | true => rfl
      | false => exact absurd (putL_no h) hne
    have e1 : numL 1 xs = 9 := by rw [num1_el]; exact h0
    have eP : put0 xs = [9, 1, el xs 2, el xs 3, el xs 4, el xs 5, el xs 6, el xs 7, el xs 8, el xs 9] ++ wide 4 (crc (bodyL (f0K xs) (f0Y xs) (f0T xs) (f0V xs))) := by
      unfold put0
      rw [putL_yes hok]
      congr 1
      unfold f0K f0Y f0T f0V
      simp only [if_pos e1, bodyL_event, num2_el, num3_el, el_drop, wide, List.length_cons, List.length_nil, List.cons_append, List.nil_append]
      have b2 := hb 2; have b3 := hb 3; have b4 := hb 4; have b5 := hb 5; have b6 := hb 6; have b7 := hb 7; have b8 := hb 8; have b9 := hb 9
      simp only [List.cons.injEq, and_true, true_and, Nat.reducePow, Nat.reduceAdd]
      refine ⟨by decide, ?_⟩
      refine ⟨?_, ?_, ?_, ?_, ?_, ?_, ?_, ?_⟩ <;> omega
    rw [eP]
    refine ⟨by simp [wide_len], by simp [el, sizeK], by simp [el], fun i hi h1 => ?_⟩
    have : i = 0 ∨ i = 2 ∨ i = 3 ∨ i = 4 ∨ i = 5 ∨ i = 6 ∨ i = 7 ∨ i = 8 ∨ i = 9 := by omega
    rcases this with rfl | rfl | rfl | rfl | rfl | rfl | rfl | rfl | rfl
    · rw [h0]; rfl
    all_goals rfl
  · have hok : fOk (f0K xs) (f0Y xs) (f0T xs) (f0V xs) = true := by
      cases h : fOk (f0K xs) (f0Y xs) (f0T xs) (f0V xs) with
      | true => rfl
      | false => exact absurd (putL_no h) hne
    have e1 : numL 1 xs = 4 := by rw [num1_el]; exact h0
    have eP : put0 xs = [4, 2, el xs 2, el xs 3, el xs 4] ++ wide 4 (crc (bodyL (f0K xs) (f0Y xs) (f0T xs) (f0V xs))) := by
      unfold put0
      rw [putL_yes hok]
      congr 1
      unfold f0K f0Y f0T f0V
      simp only [e1, if_true, show ¬ ((4 : Int) = 9) by omega, if_false, bodyL_mark, num2_el, num3_el, el_drop, wide, List.length_cons, List.length_nil, List.cons_append, List.nil_append]
      have b2 := hb 2; have b3 := hb 3; have b4 := hb 4
      simp only [List.cons.injEq, and_true, true_and, Nat.reducePow, Nat.reduceAdd]
      refine ⟨by decide, ?_⟩
      refine ⟨?_, ?_, ?_⟩ <;> omega
    rw [eP]
    refine ⟨by simp [wide_len], by simp [el, sizeK], by simp [el], fun i hi h1 => ?_⟩
    have : i = 0 ∨ i = 2 ∨ i = 3 ∨ i = 4 := by omega
    rcases this with rfl | rfl | rfl | rfl
    · rw [h0]; rfl
    all_goals rfl
  · have hok : fOk (f0K xs) (f0Y xs) (f0T xs) (f0V xs) = true := by
      cases h : fOk (f0K xs) (f0Y xs) (f0T xs) (f0V xs) with
      | true => rfl
      | false => exact absurd (putL_no h) hne
    have e1 : numL 1 xs = 1 := by rw [num1_el]; exact h0
    have eP : put0 xs = [1, 3] ++ wide 4 (crc (bodyL (f0K xs) (f0Y xs) (f0T xs) (f0V xs))) := by
      unfold put0
      rw [putL_yes hok]
      congr 1
      unfold f0K f0Y f0T f0V
      simp [e1, bodyL_bye]
    rw [eP]
    refine ⟨by simp [wide_len], by simp [el, sizeK], by simp [el], fun i hi h1 => ?_⟩
    have : i = 0 := by omega
    subst this
    rw [h0]; rfl

theorem sizeK_inj {a b : Int} (h : sizeK a = sizeK b) (h0 : sizeK a ≠ 0) : a = b := by
  unfold sizeK at h h0
  repeat' split at h
  all_goals first | omega | (simp_all)
theorem pad_fields (xs : List Int) (n : Nat) (hn : n = 9 ∨ n = 4 ∨ n = 1) (h0 : el xs 0 = n) (hk : sizeK (el xs 1) = n) :
    el (padB n xs) 0 = f0K xs ∧ sY (padB n xs) = f0Y xs ∧ sT (padB n xs) = f0T xs ∧ sV (padB n xs) = f0V xs := by
  have e0 : el (padB n xs) 0 = el xs 1 := padB_el n xs 0 (by omega)
  rcases hn with rfl | rfl | rfl
  · have e1 : el xs 1 = 1 := sizeK_inj (hk.trans (by decide)) (by rw [hk]; decide)
    have en : numL 1 xs = 9 := by rw [num1_el]; exact h0
    have h := fun i hi => padB_el 9 xs i hi
    unfold sY sT sV f0K f0Y f0T f0V
    simp only [e0, e1, if_pos en, if_true, num2_el, num3_el, el_drop]
    rw [h 1 (by omega), h 2 (by omega), h 3 (by omega), h 4 (by omega), h 5 (by omega), h 6 (by omega), h 7 (by omega), h 8 (by omega)]
    refine ⟨?_, ?_, ?_, ?_⟩ <;> first | rfl | trivial
  · have e1 : el xs 1 = 2 := sizeK_inj (hk.trans (by decide)) (by rw [hk]; decide)
    have en : numL 1 xs = 4 := by rw [num1_el]; exact h0
    have h := fun i hi => padB_el 4 xs i hi
    unfold sY sT sV f0K f0Y f0T f0V
    simp only [e0, e1, en, show ¬ ((4 : Int) = 9) by omega, show ¬ ((2 : Int) = 1) by omega, if_true, if_false, num3_el, el_drop]
    rw [h 1 (by omega), h 2 (by omega), h 3 (by omega)]
    refine ⟨?_, ?_, ?_, ?_⟩ <;> first | rfl | trivial
  · have e1 : el xs 1 = 3 := sizeK_inj (hk.trans (by decide)) (by rw [hk]; decide)
    have en : numL 1 xs = 1 := by rw [num1_el]; exact h0
    unfold sY sT sV f0K f0Y f0T f0V
    simp only [e0, e1, en, show ¬ ((1 : Int) = 9) by omega, show ¬ ((1 : Int) = 4) by omega, show ¬ ((3 : Int) = 1) by omega, show ¬ ((3 : Int) = 2) by omega, if_true, if_false]
    refine ⟨?_, ?_, ?_, ?_⟩ <;> first | rfl | trivial
theorem here_no {xs : List Int} (h : put0 xs = []) : tkHere xs = false := by unfold tkHere; rw [h]; rfl
theorem more_no {xs : List Int} (h : put0 xs = []) (hx : xs.length ≠ 0) : tkMore xs = false := by
  unfold tkMore; rw [h]
  cases xs with
  | nil => simp at hx
  | cons x xs => rfl
theorem here_iff (xs : List Int) : tkHere xs = true ↔ 0 < (put0 xs).length ∧ (put0 xs).length ≤ xs.length ∧ ∀ i, i < (put0 xs).length → el (put0 xs) i = el xs i := by
  unfold tkHere
  rw [Bool.and_eq_true, decide_eq_true_iff, prefix_el]
theorem more_iff (xs : List Int) : tkMore xs = true ↔ xs.length ≤ (put0 xs).length ∧ ∀ i, i < xs.length → el xs i = el (put0 xs) i := prefix_el _ _

/-- The three answers of the model, and what tkHere and tkMore say then. -/
theorem begS_tk (xs : List Int) (hx : IsB xs) :
    (begS xs = false → tkHere xs = false ∧ tkMore xs = false) ∧
    (begS xs = true → (xs.length = 0 ∨ (xs.length : Int) < el xs 0 + 5) → tkHere xs = false ∧ tkMore xs = true) ∧
    (begS xs = true → ¬ xs.length = 0 → ¬ (xs.length : Int) < el xs 0 + 5 → tkHere xs = true ∧ ((put0 xs).length : Int) = el xs 0 + 5 ∧ (el xs 0 = 9 ∨ el xs 0 = 4 ∨ el xs 0 = 1) ∧ sizeK (el xs 1) = el xs 0) := by
  by_cases hlen : xs.length = 0
  · have e : xs = [] := List.length_eq_zero_iff.1 hlen
    subst e
    refine ⟨fun h => by simp [begS] at h, fun _ _ => ?_, fun _ h => absurd rfl h⟩
    exact ⟨here_no (by decide), by unfold tkMore; rfl⟩
  by_cases hn : ¬ (el xs 0 = 9 ∨ el xs 0 = 4 ∨ el xs 0 = 1)
  · have hp : put0 xs = [] := by
      unfold put0
      have e : f0K xs = 0 := by unfold f0K; rw [num1_el]; rw [if_neg (by omega), if_neg (by omega), if_neg (by omega)]
      rw [e]
      exact putL_no (fOk_none _ _ _ rfl rfl rfl)
    have hb : begS xs = false := by unfold begS; rw [if_neg hlen, if_pos hn]
    rw [hb]
    exact ⟨fun _ => ⟨here_no hp, more_no hp hlen⟩, fun h => by simp at h, fun h => by simp at h⟩
  have hn' : el xs 0 = 9 ∨ el xs 0 = 4 ∨ el xs 0 = 1 := by omega
  obtain ⟨n, h0, hn3⟩ : ∃ n : Nat, el xs 0 = n ∧ (n = 9 ∨ n = 4 ∨ n = 1) := by
    rcases hn' with h | h | h
    · exact ⟨9, h, by omega⟩
    · exact ⟨4, h, by omega⟩
    · exact ⟨1, h, by omega⟩
  have hT : (el xs 0).toNat = n := by omega
  by_cases h1 : xs.length = 1
  · have hb : begS xs = true := by unfold begS; rw [if_neg hlen, if_neg hn, if_pos h1]
    have hf : ∀ i, 1 ≤ i → el xs i = 0 := fun i hi => el_far xs i (by omega)
    have hne : put0 xs ≠ [] := by
      intro h
      have hl := congrArg List.length h
      have hok : fOk (f0K xs) (f0Y xs) (f0T xs) (f0V xs) = true := by
        unfold f0K f0Y f0T f0V
        rw [num1_el, num2_el, num3_el, num3_el, num3_el]
        simp only [el_drop, hf _ (show 1 ≤ 2 + 0 by omega), hf _ (show 1 ≤ 2 + 1 by omega), hf _ (show 1 ≤ 2 + 2 by omega), hf _ (show 1 ≤ 4 + 1 by omega), hf _ (show 1 ≤ 4 + 2 by omega), hf _ (show 1 ≤ 7 + 0 by omega), hf _ (show 1 ≤ 7 + 1 by omega), hf _ (show 1 ≤ 7 + 2 by omega)]
        rcases hn3 with rfl | rfl | rfl <;> (rw [h0]; decide)
      unfold put0 at hl
      rw [putL_yes hok] at hl
      simp at hl
    have sh := put0_shape xs hx n hn3 h0 hne
    rw [hb]
    refine ⟨fun h => by simp at h, fun _ _ => ⟨?_, ?_⟩, fun _ _ h => absurd (by omega) h⟩
    · cases h : tkHere xs with
      | false => rfl
      | true => have := ((here_iff xs).1 h).2.1; omega
    · refine (more_iff xs).2 ⟨by omega, fun i hi => ?_⟩
      have : i = 0 := by omega
      subst this
      exact (sh.2.2.2 0 (by omega) (by omega)).symm
  by_cases hk : sizeK (el xs 1) ≠ el xs 0
  · have hb : begS xs = false := by unfold begS; rw [if_neg hlen, if_neg hn, if_neg h1, if_pos hk]
    rw [hb]
    refine ⟨fun _ => ?_, fun h => by simp at h, fun h => by simp at h⟩
    by_cases hne : put0 xs = []
    · exact ⟨here_no hne, more_no hne hlen⟩
    · have sh := put0_shape xs hx n hn3 h0 hne
      constructor
      · cases h : tkHere xs with
        | false => rfl
        | true =>
          have e := ((here_iff xs).1 h).2.2 1 (by omega)
          rw [e, ← h0] at sh
          exact absurd sh.2.1 hk
      · cases h : tkMore xs with
        | false => rfl
        | true =>
          have e := ((more_iff xs).1 h).2 1 (by omega)
          rw [← e, ← h0] at sh
          exact absurd sh.2.1 hk
  have hk' : sizeK (el xs 1) = el xs 0 := by omega
  have pf := pad_fields xs n hn3 h0 (hk'.trans h0)
  have eok : frOkS (padB n xs) = fOk (f0K xs) (f0Y xs) (f0T xs) (f0V xs) := by
    unfold frOkS
    have e0 : el (padB n xs) 0 = el xs 1 := padB_el n xs 0 (by omega)
    rw [padB_len, pf.2.1, pf.2.2.1, pf.2.2.2]
    have : decide ((n : Int) = sizeK (el (padB n xs) 0)) = true := by rw [e0, hk', h0]; simp
    rw [this, pf.1, Bool.true_and]
  cases hok : fOk (f0K xs) (f0Y xs) (f0T xs) (f0V xs) with
  | false =>
    have hp : put0 xs = [] := putL_no hok
    have hb : begS xs = false := by unfold begS; rw [if_neg hlen, if_neg hn, if_neg h1, if_neg hk, hT, if_pos (eok.trans hok)]
    rw [hb]
    exact ⟨fun _ => ⟨here_no hp, more_no hp hlen⟩, fun h => by simp at h, fun h => by simp at h⟩
  | true =>
    have hne : put0 xs ≠ [] := by
      intro h
      have hl := congrArg List.length h
      unfold put0 at hl
      rw [putL_yes hok] at hl
      simp at hl
    have sh := put0_shape xs hx n hn3 h0 hne
    have e1 : el (put0 xs) 1 = el xs 1 := sizeK_inj (by rw [sh.2.1, hk', h0]) (by rw [sh.2.1]; omega)
    have eP : ∀ i, i ≤ n → el (put0 xs) i = el xs i := fun i hi => by
      by_cases h : i = 1
      · subst h; exact e1
      · exact sh.2.2.2 i hi h
    have hlP := sh.1
    by_cases hw : (xs.length : Int) ≤ el xs 0
    · have hb : begS xs = true := by unfold begS; rw [if_neg hlen, if_neg hn, if_neg h1, if_neg hk, hT, if_neg (by rw [eok, hok]; simp), if_pos hw]
      rw [hb]
      refine ⟨fun h => by simp at h, fun _ _ => ⟨?_, ?_⟩, fun _ _ h => absurd (by omega) h⟩
      · cases h : tkHere xs with
        | false => rfl
        | true => have := ((here_iff xs).1 h).2.1; omega
      · exact (more_iff xs).2 ⟨by omega, fun i hi => (eP i (by omega)).symm⟩
    · have hb : begS xs = agree xs (put0 xs) := by
        unfold begS
        rw [if_neg hlen, if_neg hn, if_neg h1, if_neg hk, hT, if_neg (by rw [eok, hok]; simp), if_neg hw, pf.1, pf.2.1, pf.2.2.1, pf.2.2.2]
        rfl
      rw [hb]
      cases ha : agree xs (put0 xs) with
      | true =>
        have hA : ∀ i, i < min xs.length (put0 xs).length → el xs i = el (put0 xs) i := by simpa [agree] using ha
        refine ⟨fun h => by simp at h, fun _ hor => ⟨?_, ?_⟩, fun _ _ h => ⟨?_, by omega, hn', hk'⟩⟩
        · cases h : tkHere xs with
          | false => rfl
          | true => have := ((here_iff xs).1 h).2.1; omega
        · exact (more_iff xs).2 ⟨by omega, fun i hi => hA i (by omega)⟩
        · exact (here_iff xs).2 ⟨by omega, by omega, fun i hi => (hA i (by omega)).symm⟩
      | false =>
        have hA : ¬ ∀ i, i < min xs.length (put0 xs).length → el xs i = el (put0 xs) i := by simpa [agree] using ha
        refine ⟨fun _ => ⟨?_, ?_⟩, fun h => by simp at h, fun h => by simp at h⟩
        · cases h : tkHere xs with
          | false => rfl
          | true => exact absurd (fun i hi => (((here_iff xs).1 h).2.2 i (by omega)).symm) hA
        · cases h : tkMore xs with
          | false => rfl
          | true => exact absurd (fun i hi => ((more_iff xs).1 h).2 i (by omega)) hA

end Go.Proofs.YtnfhlfbkdhpacaaGreatDoor
