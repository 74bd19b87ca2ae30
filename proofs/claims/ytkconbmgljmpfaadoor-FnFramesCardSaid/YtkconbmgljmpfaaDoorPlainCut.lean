/- Plain: what the front of a frame's bytes says, whole and cut short. No program. -/
import Derived.Test.YtkconbmgljmpfaaDoorPlainSpec
namespace Go.Proofs.YtkconbmgljmpfaaDoor

theorem put1_els {y t v : Int} (h : fOk 1 y t v = true) : putL 1 y t v = [9, 1, y / 256 % 256, y % 256, t / 65536 % 256, t / 256 % 256, t % 256, (v + 1000000) / 65536 % 256, (v + 1000000) / 256 % 256, (v + 1000000) % 256] ++ wide 4 (crc (bodyL 1 y t v)) := by
  rw [putL_yes h]
  congr 1
  simp [bodyL, wide]
theorem put2_els {t : Int} (h : fOk 2 0 t 0 = true) : putL 2 0 t 0 = [4, 2, t / 65536 % 256, t / 256 % 256, t % 256] ++ wide 4 (crc (bodyL 2 0 t 0)) := by
  rw [putL_yes h]
  congr 1
  simp [bodyL, wide]
theorem put3_els : putL 3 0 0 0 = [1, 3] ++ wide 4 (crc (bodyL 3 0 0 0)) := by
  rw [putL_yes (by decide)]
  congr 1
theorem el_cut (xs : List Int) (m i : Nat) : el (xs.take m) i = if i < m then el xs i else 0 := by
  simp only [el, List.getD_eq_getElem?_getD, List.getElem?_take]
  split <;> simp
theorem el_app (a b : List Int) (i : Nat) (h : i < a.length) : el (a ++ b) i = el a i := by
  simp [el, List.getD, List.getElem?_append, h]
/-- A byte of a cut row. -/
theorem cut_bd (xs : List Int) (hx : IsB xs) (m i : Nat) : 0 ≤ el (xs.take m) i ∧ el (xs.take m) i ≤ el xs i ∧ el xs i ≤ 255 ∧ (i < m → el (xs.take m) i = el xs i) := by
  have h := el_bd hx i
  rw [el_cut]
  split
  · exact ⟨h.1, Int.le_refl _, h.2, fun _ => rfl⟩
  · rename_i hn
    exact ⟨Int.le_refl _, h.1, h.2, fun hh => absurd hh hn⟩
theorem f_event {ys : List Int} (h : el ys 0 = 9) : f0K ys = 1 ∧ f0Y ys = el ys 2 * 256 + el ys 3 ∧ f0T ys = (el ys 4 * 256 + el ys 5) * 256 + el ys 6 ∧ f0V ys = (el ys 7 * 256 + el ys 8) * 256 + el ys 9 - 1000000 := by
  have h1 := num1_el ys
  simp [f0K, f0Y, f0T, f0V, h1, h, num2_el, num3_el, el_drop]
theorem f_mark {ys : List Int} (h : el ys 0 = 4) : f0K ys = 2 ∧ f0Y ys = 0 ∧ f0T ys = (el ys 2 * 256 + el ys 3) * 256 + el ys 4 ∧ f0V ys = 0 := by
  have h1 := num1_el ys
  simp [f0K, f0Y, f0T, f0V, h1, h, num3_el, el_drop]
theorem f_bye {ys : List Int} (h : el ys 0 = 1) : f0K ys = 3 ∧ f0Y ys = 0 ∧ f0T ys = 0 ∧ f0V ys = 0 := by
  have h1 := num1_el ys
  simp [f0K, f0Y, f0T, f0V, h1, h]

/-- The front of a frame's bytes: the frame that it allows has the same front, and is the frame itself where the body is whole. -/
theorem cut_front {k y t v : Int} (hf : fOk k y t v = true) (m : Nat) (hm : 1 ≤ m) (hmN : m ≤ (putL k y t v).length) :
    ∃ B : Nat, (put0 ((putL k y t v).take m)).length = (putL k y t v).length ∧ B + 4 = (putL k y t v).length ∧ (∀ i, i < m → i < B → el (put0 ((putL k y t v).take m)) i = el (putL k y t v) i) ∧
      (B ≤ m → f0K ((putL k y t v).take m) = k ∧ f0Y ((putL k y t v).take m) = y ∧ f0T ((putL k y t v).take m) = t ∧ f0V ((putL k y t v).take m) = v) := by
  have hB := putL_isB k y t v
  rcases fOk_bd hf with ⟨rfl, h⟩ | ⟨rfl, rfl, h3, h4, rfl⟩ | ⟨rfl, rfl, rfl, rfl⟩
  · have hx := put1_els hf
    have hlen : (putL 1 y t v).length = 14 := by rw [hx]; simp [wide_len]
    generalize putL 1 y t v = xs at hB hx hlen hmN ⊢
    have e : ∀ i, i < 10 → el xs i = el [9, 1, y / 256 % 256, y % 256, t / 65536 % 256, t / 256 % 256, t % 256, (v + 1000000) / 65536 % 256, (v + 1000000) / 256 % 256, (v + 1000000) % 256] i := fun i hi => by rw [hx, el_app _ _ _ (by simpa using hi)]
    have a0 : el xs 0 = 9 := e 0 (by omega)
    have a1 : el xs 1 = 1 := e 1 (by omega)
    have a2 : el xs 2 = y / 256 % 256 := e 2 (by omega)
    have a3 : el xs 3 = y % 256 := e 3 (by omega)
    have a4 : el xs 4 = t / 65536 % 256 := e 4 (by omega)
    have a5 : el xs 5 = t / 256 % 256 := e 5 (by omega)
    have a6 : el xs 6 = t % 256 := e 6 (by omega)
    have a7 : el xs 7 = (v + 1000000) / 65536 % 256 := e 7 (by omega)
    have a8 : el xs 8 = (v + 1000000) / 256 % 256 := e 8 (by omega)
    have a9 : el xs 9 = (v + 1000000) % 256 := e 9 (by omega)
    have c := cut_bd xs hB m
    have c0 := c 0
    have c2 := c 2
    have c3 := c 3
    have c4 := c 4
    have c5 := c 5
    have c6 := c 6
    have c7 := c 7
    have c8 := c 8
    have c9 := c 9
    have z0 : el (xs.take m) 0 = 9 := by rw [c0.2.2.2 (by omega)]; exact a0
    obtain ⟨k1, k2, k3, k4⟩ := f_event z0
    have hput : put0 (xs.take m) = putL 1 (f0Y (xs.take m)) (f0T (xs.take m)) (f0V (xs.take m)) := by unfold put0; rw [k1]
    rw [hput, k2, k3, k4]
    rw [a2] at c2
    rw [a3] at c3
    rw [a4] at c4
    rw [a5] at c5
    rw [a6] at c6
    rw [a7] at c7
    rw [a8] at c8
    rw [a9] at c9
    generalize el (xs.take m) 2 = b2 at c2 ⊢
    generalize el (xs.take m) 3 = b3 at c3 ⊢
    generalize el (xs.take m) 4 = b4 at c4 ⊢
    generalize el (xs.take m) 5 = b5 at c5 ⊢
    generalize el (xs.take m) 6 = b6 at c6 ⊢
    generalize el (xs.take m) 7 = b7 at c7 ⊢
    generalize el (xs.take m) 8 = b8 at c8 ⊢
    generalize el (xs.take m) 9 = b9 at c9 ⊢
    have hf2 : fOk 1 (b2 * 256 + b3) ((b4 * 256 + b5) * 256 + b6) ((b7 * 256 + b8) * 256 + b9 - 1000000) = true := by
      rw [fOk_event]
      simp only [inB, Bool.and_eq_true, decide_eq_true_eq]
      omega
    have hx2 := put1_els hf2
    refine ⟨10, by rw [hx2, hlen]; simp [wide_len], by omega, fun i hi hi2 => ?_, fun h10 => ⟨k1, by omega, by omega, by omega⟩⟩
    rw [hx2, el_app _ _ _ (by simpa using hi2), e i hi2]
    have hi3 : i = 0 ∨ i = 1 ∨ i = 2 ∨ i = 3 ∨ i = 4 ∨ i = 5 ∨ i = 6 ∨ i = 7 ∨ i = 8 ∨ i = 9 := by omega
    rcases hi3 with rfl | rfl | rfl | rfl | rfl | rfl | rfl | rfl | rfl | rfl
    · rfl
    · rfl
    · have := c2.2.2.2 hi; simp [el]; omega
    · have := c3.2.2.2 hi; simp [el]; omega
    · have := c4.2.2.2 hi; simp [el]; omega
    · have := c5.2.2.2 hi; simp [el]; omega
    · have := c6.2.2.2 hi; simp [el]; omega
    · have := c7.2.2.2 hi; simp [el]; omega
    · have := c8.2.2.2 hi; simp [el]; omega
    · have := c9.2.2.2 hi; simp [el]; omega
  · have hx := put2_els hf
    have hlen : (putL 2 0 t 0).length = 9 := by rw [hx]; simp [wide_len]
    generalize putL 2 0 t 0 = xs at hB hx hlen hmN ⊢
    have e : ∀ i, i < 5 → el xs i = el [4, 2, t / 65536 % 256, t / 256 % 256, t % 256] i := fun i hi => by rw [hx, el_app _ _ _ (by simpa using hi)]
    have a0 : el xs 0 = 4 := e 0 (by omega)
    have a2 : el xs 2 = t / 65536 % 256 := e 2 (by omega)
    have a3 : el xs 3 = t / 256 % 256 := e 3 (by omega)
    have a4 : el xs 4 = t % 256 := e 4 (by omega)
    have c := cut_bd xs hB m
    have c0 := c 0
    have c2 := c 2
    have c3 := c 3
    have c4 := c 4
    have z0 : el (xs.take m) 0 = 4 := by rw [c0.2.2.2 (by omega)]; exact a0
    obtain ⟨k1, k2, k3, k4⟩ := f_mark z0
    have hput : put0 (xs.take m) = putL 2 0 (f0T (xs.take m)) 0 := by unfold put0; rw [k1, k2, k4]
    rw [hput, k3]
    rw [a2] at c2
    rw [a3] at c3
    rw [a4] at c4
    generalize el (xs.take m) 2 = b2 at c2 ⊢
    generalize el (xs.take m) 3 = b3 at c3 ⊢
    generalize el (xs.take m) 4 = b4 at c4 ⊢
    have hf2 : fOk 2 0 ((b2 * 256 + b3) * 256 + b4) 0 = true := by
      rw [fOk_mark]
      simp only [inB, Bool.and_eq_true, decide_eq_true_eq, beq_self_eq_true, and_true, true_and]
      omega
    have hx2 := put2_els hf2
    refine ⟨5, by rw [hx2, hlen]; simp [wide_len], by omega, fun i hi hi2 => ?_, fun h10 => ⟨k1, k2, by omega, k4⟩⟩
    rw [hx2, el_app _ _ _ (by simpa using hi2), e i hi2]
    have hi3 : i = 0 ∨ i = 1 ∨ i = 2 ∨ i = 3 ∨ i = 4 := by omega
    rcases hi3 with rfl | rfl | rfl | rfl | rfl
    · rfl
    · rfl
    · have := c2.2.2.2 hi; simp [el]; omega
    · have := c3.2.2.2 hi; simp [el]; omega
    · have := c4.2.2.2 hi; simp [el]; omega
  · have hx := put3_els
    have hlen : (putL 3 0 0 0).length = 6 := by rw [hx]; simp [wide_len]
    have a0 : el (putL 3 0 0 0) 0 = 1 := by rw [hx]; rfl
    have z0 : el ((putL 3 0 0 0).take m) 0 = 1 := by rw [el_cut, if_pos (by omega)]; exact a0
    obtain ⟨k1, k2, k3, k4⟩ := f_bye z0
    have hput : put0 ((putL 3 0 0 0).take m) = putL 3 0 0 0 := by unfold put0; rw [k1, k2, k3, k4]
    exact ⟨2, by rw [hput], by omega, fun i _ _ => by rw [hput], fun _ => ⟨k1, k2, k3, k4⟩⟩
/-- The whole of a frame's bytes is read as the frame. -/
theorem whole_here {k y t v : Int} (hf : fOk k y t v = true) : tkHere (putL k y t v) = true ∧ f0K (putL k y t v) = k ∧ f0Y (putL k y t v) = y ∧ f0T (putL k y t v) = t ∧ f0V (putL k y t v) = v ∧ put0 (putL k y t v) = putL k y t v := by
  have h0 : 1 ≤ (putL k y t v).length := by rw [putL_yes hf]; simp
  obtain ⟨B, h1, h2, h3, h4⟩ := cut_front hf (putL k y t v).length h0 (Nat.le_refl _)
  rw [List.take_length] at h4
  obtain ⟨e1, e2, e3, e4⟩ := h4 (by omega)
  have hp : put0 (putL k y t v) = putL k y t v := by
    have : put0 (putL k y t v) = putL (f0K (putL k y t v)) (f0Y (putL k y t v)) (f0T (putL k y t v)) (f0V (putL k y t v)) := rfl
    rw [this, e1, e2, e3, e4]
  refine ⟨?_, e1, e2, e3, e4, hp⟩
  rw [here_iff, hp]
  exact ⟨h0, Nat.le_refl _, fun _ _ => rfl⟩
/-- Cut shorter it is asked for more. -/
theorem cut_more {k y t v : Int} (hf : fOk k y t v = true) (m : Nat) (hm : m < (putL k y t v).length) : tkHere ((putL k y t v).take m) = false ∧ tkMore ((putL k y t v).take m) = true := by
  rcases Nat.eq_zero_or_pos m with rfl | h0
  · have e : put0 [] = [] := by decide
    rw [List.take_zero]
    exact ⟨here_no e, by unfold tkMore; rw [e]; rfl⟩
  · obtain ⟨B, h1, h2, h3, h4⟩ := cut_front hf m h0 (Nat.le_of_lt hm)
    have hl : ((putL k y t v).take m).length = m := by rw [List.length_take]; omega
    refine ⟨?_, ?_⟩
    · rw [Bool.eq_false_iff]
      intro hh
      rw [here_iff] at hh
      omega
    · rw [more_iff, hl]
      refine ⟨by omega, fun i hi => ?_⟩
      rw [el_cut, if_pos hi]
      by_cases hb : i < B
      · exact (h3 i hi hb).symm
      · obtain ⟨e1, e2, e3, e4⟩ := h4 (by omega)
        have : put0 ((putL k y t v).take m) = putL k y t v := by
          unfold put0; rw [e1, e2, e3, e4]
        rw [this]
/-- Bytes in whose front the frame itself stands are its bytes, if they are as many. -/
theorem bent_other {k y t v : Int} (hf : fOk k y t v = true) {ys : List Int} (hl : ys.length = (putL k y t v).length) (hne : ys ≠ putL k y t v) (hh : tkHere ys = true) : ¬ (f0K ys = k ∧ f0Y ys = y ∧ f0T ys = t ∧ f0V ys = v) := by
  rintro ⟨rfl, rfl, rfl, rfl⟩
  rw [here_iff] at hh
  have hp : put0 ys = putL (f0K ys) (f0Y ys) (f0T ys) (f0V ys) := rfl
  apply hne
  rw [← hp] at hl ⊢
  exact ext_el hl (fun i hi => (hh.2.2 i (by omega)).symm)
end Go.Proofs.YtkconbmgljmpfaaDoor
