/- Plain: chapter 11, the keys of the greatest counts. No program. -/
import Derived.Test.YtchbmnpajnlijaaKeyT
import Derived.Test.YtchbmnpajnlijaaPlain
namespace Go.Proofs.Ytchbmnpajnlijaa
open Go.RowKit Stab

theorem nodup_le : ∀ {xs ys : List Int}, xs.Nodup → (∀ x, x ∈ xs → x ∈ ys) → xs.length ≤ ys.length
  | [], ys, _, _ => Nat.zero_le _
  | x :: xs, ys, hn, hs => by
    have hx := hs x (by simp)
    have hc := List.nodup_cons.1 hn
    have := nodup_le (xs := xs) (ys := ys.erase x) hc.2 (fun y hy => by
      refine (List.mem_erase_of_ne ?_).2 (hs y (by simp [hy]))
      intro e
      exact hc.1 (e ▸ hy))
    rw [List.length_erase_of_mem hx] at this
    have hp : 0 < ys.length := List.length_pos_of_mem hx
    simp only [List.length_cons]
    omega
def keysA (T : List Ag) : List Int := T.map (fun S => S.key)
/-- All in the window 0, strictly rising: no key twice. -/
theorem keys_nodup {T : List Ag} (h : Asc T) (h0 : ∀ x, x ∈ T → x.win = 0) : (keysA T).Nodup := by
  unfold keysA
  induction T with
  | nil => exact List.nodup_nil
  | cons x T ih =>
    have hc := List.pairwise_cons.1 h
    refine List.nodup_cons.2 ⟨fun hm => ?_, ih hc.2 (fun y hy => h0 y (by simp [hy]))⟩
    obtain ⟨y, hy, he⟩ := List.mem_map.1 hm
    have h1 := hc.1 y hy
    simp only at he
    have e1 := h0 x (by simp)
    have e2 := h0 y (by simp [hy])
    unfold aheadA at h1
    simp only [decide_eq_true_eq] at h1
    omega
theorem put_win {l : List Ag} {a : Ag} (hl : ∀ x, x ∈ l → x.win = 0) (ha : a.win = 0) : ∀ x, x ∈ putA l a → x.win = 0 := fun x hx => by
  rcases mem_put hx with rfl | hx | ⟨z, hz, _, rfl⟩
  · exact ha
  · exact hl x hx
  · exact hl z hz
theorem foldP_win (m : List Ag) : ∀ {l0 : List Ag}, (∀ x, x ∈ l0 → x.win = 0) → (∀ x, x ∈ m → x.win = 0) → ∀ x, x ∈ foldP l0 m → x.win = 0 := by
  induction m with
  | nil => intro l0 h _; exact h
  | cons a m ih =>
    intro l0 h hm
    rw [foldP_cons]
    exact ih (put_win h (hm a (by simp))) (fun x hx => hm x (by simp [hx]))
theorem kt_nodup (l : List Ag) : (keysA (ktL l)).Nodup := by
  unfold ktL
  split
  · refine keys_nodup (foldP_asc _ List.Pairwise.nil) (foldP_win _ (fun x hx => by simp at hx) (fun x hx => ?_))
    obtain ⟨y, _, rfl⟩ := List.mem_map.1 hx
    rfl
  · exact List.nodup_nil
/-- The place of the greatest count among the first i whose keys are not out, the first of several. -/
def bestTo (T : List Ag) (out : List Int) : Nat → Int
  | 0 => -1
  | i + 1 => if out.contains (ael T i).key = false ∧ (bestTo T out i < 0 ∨ (ael T (bestTo T out i).toNat).cnt < (ael T i).cnt) then (i : Int) else bestTo T out i
theorem best_bd (T : List Ag) (out : List Int) : ∀ i, -1 ≤ bestTo T out i ∧ bestTo T out i < i
  | 0 => ⟨Int.le_refl _, by show (-1 : Int) < ((0 : Nat) : Int); omega⟩
  | i + 1 => by
    have := best_bd T out i
    unfold bestTo
    split
    · omega
    · omega
theorem best_pos {T : List Ag} {out : List Int} : ∀ {i q : Nat}, q < i → out.contains (ael T q).key = false → 0 ≤ bestTo T out i
  | 0, q, h, _ => by omega
  | i + 1, q, h, hc => by
    unfold bestTo
    split
    · omega
    · rename_i hn
      by_cases hq : q = i
      · subst hq
        have : ¬ (bestTo T out q < 0) := fun h9 => hn ⟨hc, .inl h9⟩
        omega
      · exact best_pos (i := i) (q := q) (by omega) hc
theorem best_in {T : List Ag} {out : List Int} : ∀ {i : Nat}, 0 ≤ bestTo T out i → out.contains (ael T (bestTo T out i).toNat).key = false
  | 0, h => by have : bestTo T out 0 = -1 := rfl; omega
  | i + 1, h => by
    unfold bestTo at h ⊢
    split
    · rename_i hc
      rw [Int.toNat_natCast]
      exact hc.1
    · rename_i hc
      rw [if_neg hc] at h
      exact best_in h
/-- Where not all keys are out, one is left. -/
theorem best_some {T : List Ag} {out : List Int} (hn : (keysA T).Nodup) (hl : out.length < T.length) : 0 ≤ bestTo T out T.length := by
  by_cases h : bestTo T out T.length < 0
  · exfalso
    have := nodup_le hn (ys := out) (fun x hx => by
      unfold keysA at hx
      obtain ⟨S, hS, rfl⟩ := List.mem_map.1 hx
      obtain ⟨q, hq, he⟩ := List.getElem_of_mem hS
      cases hc : out.contains (ael T q).key with
      | true =>
        have := List.contains_iff_mem.1 hc
        rwa [show ael T q = T[q] from rel_lt aD hq, he] at this
      | false =>
        have := best_pos (i := T.length) hq hc
        omega)
    unfold keysA at this
    rw [List.length_map] at this
    omega
  · omega
def topTo (T : List Ag) : Nat → List Int
  | 0 => []
  | j + 1 => topTo T j ++ [(ael T (bestTo T (topTo T j) T.length).toNat).key]
theorem topTo_len (T : List Ag) : ∀ j, (topTo T j).length = j
  | 0 => rfl
  | j + 1 => by simp [topTo, topTo_len T j]
/-- TopKeys. -/
def topZ (l : List Ag) (n : Int) : List Int := if 0 ≤ n ∧ l.all aggOk = true then topTo (ktL l) (min n.toNat (ktL l).length) else []
theorem topZ_no1 {l : List Ag} {n : Int} (h : n < 0) : topZ l n = [] := if_neg (fun h2 => by omega)
theorem topZ_no2 {l : List Ag} {n : Int} (h : l.all aggOk = false) : topZ l n = [] := if_neg (fun h2 => by rw [h] at h2; cases h2.2)
theorem topZ_yes {l : List Ag} {n : Int} (h : ¬ n < 0) (h2 : l.all aggOk = true) : topZ l n = topTo (ktL l) (min n.toNat (ktL l).length) := if_pos ⟨by omega, h2⟩
end Go.Proofs.Ytchbmnpajnlijaa
