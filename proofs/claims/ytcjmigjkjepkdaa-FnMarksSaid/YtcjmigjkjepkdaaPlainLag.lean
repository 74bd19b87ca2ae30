/- Plain: how far a source lags, as a float64: whole numbers to 1000000 and an infinity, by their rank. No program. -/
import Derived.Laws.FloatArith
namespace Go.Proofs.Ytcjmigjkjepkdaa
open Ieee

/-- The float64 of a rank: r itself to 1000000, above it the infinity. -/
def lagBits (r : Nat) : Nat := if r ≤ 1000000 then FloatKind.f64.nearest (r : Int) else 9218868437227405312

theorem cut_even_zero (neg : Bool) (n : Nat) : Toward.even.cut neg n 0 = n := by
  simp [Toward.cut, Nat.mod_one]

/-- What the float64 of a number from 1 to 1000000 stands for. -/
theorem read_num (n : Nat) (h1 : 1 ≤ n) (h2 : n ≤ 1000000) : ∃ e : Nat, e ≤ 19 ∧ 2 ^ e ≤ n ∧ n < 2 ^ (e + 1) ∧ Ieee.double.read (FloatKind.f64.nearest (n : Int)) = .number false (n * 2 ^ (52 - e)) ((e : Int) - 52) := by
  have hl1 : 2 ^ n.log2 ≤ n := Nat.log2_self_le (by omega)
  have hl2 : n < 2 ^ (n.log2 + 1) := Nat.lt_log2_self
  have he : n.log2 ≤ 19 := by
    rcases Nat.lt_or_ge n.log2 20 with h | h
    · omega
    · have := Nat.pow_le_pow_right (show 0 < 2 by omega) h
      have e20 : 2 ^ 20 = 1048576 := by decide
      omega
  refine ⟨n.log2, he, hl1, hl2, ?_⟩
  have hbin : Ieee.double.binade = 2 ^ 52 := rfl
  have hinf : Ieee.double.infRung = 2047 * 2 ^ 52 := by decide
  have hsw : Ieee.double.signWeight = 2048 * 2 ^ 52 := by decide
  have hK : 2 ^ 52 ≤ n * 2 ^ (52 - n.log2) ∧ n * 2 ^ (52 - n.log2) < 2 * 2 ^ 52 := by
    have e1 : (2 : Nat) ^ 52 = 2 ^ n.log2 * 2 ^ (52 - n.log2) := by rw [← Nat.pow_add]; congr 1; omega
    constructor
    · rw [e1]; exact Nat.mul_le_mul_right _ hl1
    · rw [e1, ← Nat.mul_assoc, show 2 * 2 ^ n.log2 = 2 ^ (n.log2 + 1) by rw [Nat.pow_succ]; omega]
      exact Nat.mul_lt_mul_of_pos_right hl2 (Nat.pow_pos (by omega))
  have hmin : min ((n.log2 + 1022) * Ieee.double.binade + n * 2 ^ (52 - n.log2)) Ieee.double.infRung = (n.log2 + 1022) * Ieee.double.binade + n * 2 ^ (52 - n.log2) := by
    rw [hbin, hinf]; omega
  have hw : FloatKind.f64.nearest (n : Int) = (n.log2 + 1022) * 2 ^ 52 + n * 2 ^ (52 - n.log2) := by
    show Ieee.double.write (.number (decide ((n : Int) < 0)) (n : Int).natAbs 0) = _
    rw [show decide ((n : Int) < 0) = false by simp, show (n : Int).natAbs = n by omega]
    show Ieee.double.nearest false n 0 = _
    unfold Format.nearest
    rw [if_neg (by omega)]
    have e1 : max ((0 : Int) + (n.log2 : Int) - (Ieee.double.fractionBits : Int)) Ieee.double.leastPlace = (n.log2 : Int) - 52 := by
      have a1 : (Ieee.double.fractionBits : Int) = 52 := rfl
      have a2 : Ieee.double.leastPlace = -1074 := by decide
      rw [a1, a2]
      omega
    simp only [e1]
    rw [show ((0 : Int) - ((n.log2 : Int) - 52)).toNat = 52 - n.log2 by omega, show ((n.log2 : Int) - 52 - 0).toNat = 0 by omega, cut_even_zero]
    rw [show ((n.log2 : Int) - 52 - Ieee.double.leastPlace).toNat = n.log2 + 1022 by
      have a2 : Ieee.double.leastPlace = -1074 := by decide
      rw [a2]; omega]
    rw [Nat.shiftLeft_eq]
    rw [hmin]
    simp [Format.word, hbin]
  rw [hw]
  have hmod : ((n.log2 + 1022) * 2 ^ 52 + n * 2 ^ (52 - n.log2)) % Ieee.double.signWeight = (n.log2 + 1022) * 2 ^ 52 + n * 2 ^ (52 - n.log2) := Nat.mod_eq_of_lt (by rw [hsw]; omega)
  have hdiv : ((n.log2 + 1022) * 2 ^ 52 + n * 2 ^ (52 - n.log2)) / Ieee.double.signWeight = 0 := Nat.div_eq_of_lt (by rw [hsw]; omega)
  unfold Format.read
  simp only [hmod, hdiv]
  rw [if_neg (by rw [hbin]; omega), if_pos (by rw [hinf]; omega)]
  have hq : ((n.log2 + 1022) * 2 ^ 52 + n * 2 ^ (52 - n.log2)) / Ieee.double.binade = n.log2 + 1023 := by
    rw [hbin]; omega
  have hr : ((n.log2 + 1022) * 2 ^ 52 + n * 2 ^ (52 - n.log2)) % Ieee.double.binade = n * 2 ^ (52 - n.log2) - 2 ^ 52 := by
    rw [hbin]; omega
  rw [hq, hr, hbin]
  have a2 : Ieee.double.leastPlace = -1074 := by decide
  rw [a2, show 2 ^ 52 + (n * 2 ^ (52 - n.log2) - 2 ^ 52) = n * 2 ^ (52 - n.log2) by omega, show (-1074 : Int) + ((n.log2 + 1023 - 1 : Nat) : Int) = (n.log2 : Int) - 52 by omega]
  rfl

theorem read_zero : Ieee.double.read (FloatKind.f64.nearest ((0 : Nat) : Int)) = .number false 0 (-1074) := by decide
theorem read_inf : Ieee.double.read 9218868437227405312 = .infinity false := by decide
theorem read_max : Ieee.double.read 9218868437227405311 = .number false 9007199254740991 971 := by decide

theorem compare_scaled {M N a b C T : Nat} (hC : 0 < C) (hT : 0 < T) (h1 : M * C = a * T) (h2 : N * C = b * T) : compare (M : Int) (N : Int) = compare a b := by
  have key : ∀ {x y p q : Nat}, x * C = p * T → y * C = q * T → p < q → x < y := fun {x y p q} k1 k2 h => by
    have h3 := Nat.mul_lt_mul_of_pos_right h hT
    rw [← k1, ← k2] at h3
    exact Nat.lt_of_mul_lt_mul_right h3
  show compareOfLessAndEq (M : Int) (N : Int) = compareOfLessAndEq a b
  unfold compareOfLessAndEq
  rcases Nat.lt_trichotomy a b with h | h | h
  · have := key h1 h2 h
    rw [if_pos (by omega), if_pos h]
  · subst h
    have h3 : M * C = N * C := h1.trans h2.symm
    have := Nat.eq_of_mul_eq_mul_right hC h3
    subst this
    simp
  · have := key h2 h1 h
    rw [if_neg (by omega), if_neg (by omega), if_neg (by omega), if_neg (by omega)]
theorem order_scaled (m n : Nat) (i j : Int) (hi : -1074 ≤ i) (hj : -1074 ≤ j) (a b T : Nat) (hT : 0 < T) (h1 : m * 2 ^ (i + 1074).toNat = a * T) (h2 : n * 2 ^ (j + 1074).toNat = b * T) :
    (Datum.number false m i).order (Datum.number false n j) = some (compare a b) := by
  have e1 : (i + 1074).toNat = (i - min i j).toNat + (min i j + 1074).toNat := by omega
  have e2 : (j + 1074).toNat = (j - min i j).toNat + (min i j + 1074).toNat := by omega
  rw [e1, Nat.pow_add, ← Nat.mul_assoc] at h1
  rw [e2, Nat.pow_add, ← Nat.mul_assoc] at h2
  show some (compare (((m <<< (i - min i j).toNat : Nat) : Int)) (((n <<< (j - min i j).toNat : Nat) : Int))) = _
  rw [Nat.shiftLeft_eq, Nat.shiftLeft_eq, compare_scaled (Nat.pow_pos (by omega)) hT h1 h2]
/-- Two whole numbers as floats compare as themselves. -/
theorem order_num (a b : Nat) (ha : a ≤ 1000000) (hb : b ≤ 1000000) : Ieee.double.order (FloatKind.f64.nearest (a : Int)) (FloatKind.f64.nearest (b : Int)) = some (compare a b) := by
  obtain ⟨P, hP⟩ : ∃ P : Nat, P = 1074 := ⟨_, rfl⟩
  obtain ⟨T, hT⟩ : ∃ T : Nat, T = 2 ^ P := ⟨_, rfl⟩
  have hTp : 0 < T := by rw [hT]; exact Nat.pow_pos (by omega)
  have key : ∀ n : Nat, n ≤ 1000000 → ∃ (m : Nat) (i : Int), -1074 ≤ i ∧ m * 2 ^ (i + 1074).toNat = n * T ∧ Ieee.double.read (FloatKind.f64.nearest (n : Int)) = .number false m i := fun n hn => by
    by_cases h0 : n = 0
    · subst h0
      exact ⟨0, -1074, by omega, by rw [Nat.zero_mul, Nat.zero_mul], read_zero⟩
    · obtain ⟨e, he, _, _, hr⟩ := read_num n (by omega) hn
      refine ⟨_, _, by omega, ?_, hr⟩
      rw [hT, Nat.mul_assoc, ← Nat.pow_add]
      congr 2
      omega
  obtain ⟨m, i, hi, h1, r1⟩ := key a ha
  obtain ⟨n, j, hj, h2, r2⟩ := key b hb
  unfold Format.order
  rw [r1, r2]
  exact order_scaled m n i j hi hj a b T hTp h1 h2
/-- Below a rank above 1000000 all ranks are alike. -/
def ltR (a b : Nat) : Bool := decide (min a 1000001 < min b 1000001)
theorem lag_in {r : Nat} (h : r ≤ 1000000) : lagBits r = FloatKind.f64.nearest (r : Int) := by unfold lagBits; rw [if_pos h]
theorem lag_out {r : Nat} (h : ¬ r ≤ 1000000) : lagBits r = 9218868437227405312 := by unfold lagBits; rw [if_neg h]
theorem order_lag (a b : Nat) : Ieee.double.order (lagBits a) (lagBits b) = some (compare (min a 1000001) (min b 1000001)) := by
  by_cases ha : a ≤ 1000000
  · by_cases hb : b ≤ 1000000
    · rw [lag_in ha, lag_in hb, order_num a b ha hb, Nat.min_eq_left (by omega), Nat.min_eq_left (by omega)]
    · rw [lag_in ha, lag_out hb, Nat.min_eq_left (by omega), Nat.min_eq_right (by omega)]
      have hr : ∃ m i, Ieee.double.read (FloatKind.f64.nearest (a : Int)) = .number false m i := by
        by_cases h0 : a = 0
        · subst h0; exact ⟨_, _, read_zero⟩
        · obtain ⟨e, _, _, _, hr⟩ := read_num a (by omega) ha; exact ⟨_, _, hr⟩
      obtain ⟨m, i, hr⟩ := hr
      unfold Format.order
      rw [hr, read_inf]
      show some Ordering.lt = some (compare a 1000001)
      rw [Nat.compare_eq_lt.2 (by omega)]
  · by_cases hb : b ≤ 1000000
    · rw [lag_out ha, lag_in hb, Nat.min_eq_right (by omega), Nat.min_eq_left (by omega)]
      have hr : ∃ m i, Ieee.double.read (FloatKind.f64.nearest (b : Int)) = .number false m i := by
        by_cases h0 : b = 0
        · subst h0; exact ⟨_, _, read_zero⟩
        · obtain ⟨e, _, _, _, hr⟩ := read_num b (by omega) hb; exact ⟨_, _, hr⟩
      obtain ⟨m, i, hr⟩ := hr
      unfold Format.order
      rw [hr, read_inf]
      show some Ordering.gt = some (compare 1000001 b)
      rw [Nat.compare_eq_gt.2 (by omega)]
    · rw [lag_out ha, lag_out hb, Nat.min_eq_right (by omega), Nat.min_eq_right (by omega)]
      unfold Format.order
      rw [read_inf]
      rfl
/-- The comparison of two lags, of a lag with itself, and whether one is the infinity. -/
theorem lt_lag (a b : Nat) : (Ieee.double.order (lagBits a) (lagBits b) == some .lt) = ltR a b := by
  rw [order_lag]
  unfold ltR
  rcases Nat.lt_trichotomy (min a 1000001) (min b 1000001) with h | h | h
  · rw [Nat.compare_eq_lt.2 h, decide_eq_true h]; rfl
  · rw [Nat.compare_eq_eq.2 h, decide_eq_false (by omega)]; rfl
  · rw [Nat.compare_eq_gt.2 h, decide_eq_false (by omega)]; rfl
theorem ne_lag (a : Nat) : (Ieee.double.order (lagBits a) (lagBits a) != some .eq) = false := by
  rw [order_lag, Nat.compare_eq_eq.2 rfl]; rfl
theorem gt_lag (a : Nat) : (Ieee.double.order (lagBits a) 9218868437227405311 == some .gt) = decide (1000000 < a) := by
  by_cases ha : a ≤ 1000000
  · rw [lag_in ha, decide_eq_false (by omega)]
    unfold Format.order
    rw [read_max]
    by_cases h0 : a = 0
    · subst h0; rw [read_zero]; decide
    · obtain ⟨e, he, h1, h2, hr⟩ := read_num a (by omega) ha
      rw [hr]
      have h3 : (Datum.number false (a * 2 ^ (52 - e)) ((e : Int) - 52)).order (Datum.number false 9007199254740991 971) = some .lt := by
        show some (compare (((a * 2 ^ (52 - e)) <<< (((e : Int) - 52) - min ((e : Int) - 52) 971).toNat : Nat) : Int) ((9007199254740991 <<< ((971 : Int) - min ((e : Int) - 52) 971).toNat : Nat) : Int)) = _
        rw [Int.min_eq_left (by omega), show (((e : Int) - 52) - ((e : Int) - 52)).toNat = 0 by omega, show ((971 : Int) - ((e : Int) - 52)).toNat = (1023 - e) by omega, Nat.shiftLeft_eq, Nat.shiftLeft_eq, Nat.pow_zero, Nat.mul_one]
        have hlt : a * 2 ^ (52 - e) < 9007199254740991 * 2 ^ (1023 - e) := by
          obtain ⟨P, hP⟩ : ∃ P : Nat, P = 971 := ⟨_, rfl⟩
          have k1 : 2 ^ (1023 - e) = 2 ^ P * 2 ^ (52 - e) := by rw [← Nat.pow_add]; congr 1; omega
          rw [k1, ← Nat.mul_assoc]
          refine Nat.mul_lt_mul_of_pos_right ?_ (Nat.pow_pos (by omega))
          have k2 : 1 ≤ 2 ^ P := Nat.pow_pos (by omega)
          have k3 := Nat.mul_le_mul_left 9007199254740991 k2
          omega
        generalize 9007199254740991 * 2 ^ (1023 - e) = Z at hlt
        show some (compareOfLessAndEq _ _) = _
        unfold compareOfLessAndEq
        rw [if_pos (by omega)]
      rw [h3]; rfl
  · rw [lag_out ha, decide_eq_true (by omega)]
    unfold Format.order
    rw [read_max, read_inf]
    rfl
/-- Back to a whole number. -/
theorem int_lag (a : Nat) (ha : a ≤ 1000000) : floatToIntVal .f64 (lagBits a) .i64 = some (a : Int) := by
  have key : (Ieee.double.read (FloatKind.f64.nearest (a : Int))).toInt .zero = some (a : Int) := by
    by_cases h0 : a = 0
    · subst h0; rw [read_zero]; decide
    · obtain ⟨e, he, h1, h2, hr⟩ := read_num a (by omega) ha
      rw [hr]
      have hK : 2 ^ 52 ≤ a * 2 ^ (52 - e) := by
        have e1 : (2 : Nat) ^ 52 = 2 ^ e * 2 ^ (52 - e) := by rw [← Nat.pow_add]; congr 1; omega
        rw [e1]; exact Nat.mul_le_mul_right _ h1
      have hlog : 52 ≤ (a * 2 ^ (52 - e)).log2 := (Nat.le_log2 (by omega)).2 hK
      show some (((Toward.zero.cut false ((a * 2 ^ (52 - e)) <<< ((e : Int) - 52).toNat) (-((e : Int) - 52)).toNat) <<< 0 : Nat) : Int) = _
      rw [show ((e : Int) - 52).toNat = 0 by omega, show (-((e : Int) - 52)).toNat = 52 - e by omega, Nat.shiftLeft_eq, Nat.pow_zero, Nat.mul_one, Nat.shiftLeft_eq, Nat.pow_zero, Nat.mul_one]
      unfold Toward.cut
      rw [Nat.min_eq_left (by omega), Nat.shiftLeft_eq, Nat.one_mul]
      simp only [Bool.toNat_false, Nat.add_zero]
      rw [Nat.mul_div_cancel _ (Nat.pow_pos (by omega))]
  unfold floatToIntVal
  rw [lag_in ha]
  show (match (Ieee.double.read (FloatKind.f64.nearest (a : Int))).toInt .zero with
    | some n => if IntKind.i64.min ≤ n ∧ n ≤ IntKind.i64.max then some n else none
    | none => none) = _
  rw [key]
  have hb : IntKind.i64.min ≤ (a : Int) ∧ (a : Int) ≤ IntKind.i64.max := by
    have e1 : IntKind.i64.min = -9223372036854775808 := by decide
    have e2 : IntKind.i64.max = 9223372036854775807 := by decide
    rw [e1, e2]; omega
  show (if IntKind.i64.min ≤ (a : Int) ∧ (a : Int) ≤ IntKind.i64.max then some (a : Int) else none) = _
  rw [if_pos hb]
end Go.Proofs.Ytcjmigjkjepkdaa
