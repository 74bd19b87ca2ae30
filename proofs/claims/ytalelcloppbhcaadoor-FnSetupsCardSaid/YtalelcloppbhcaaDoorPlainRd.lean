/- How (readFields) of impl goes through a text, byte by byte: plain. -/
import Derived.Test.YtalelcloppbhcaaDoorPlainPs
namespace Go.Proofs.YtalelcloppbhcaaDoor
open Go.RowKit Go.Lib

def mostL : List Int := [6, 4, 1000, 1000, 1000, 20, 20, 20, 40]
/-- One byte: a blank ends a number, a digit goes on with it. -/
def rdStep (st : List Int × Nat) (b : UInt8) : Option (List Int × Nat) :=
  if b.toNat = 32 ∧ st.2 < 8 then some (st.1, st.2 + 1)
  else if 48 ≤ b.toNat ∧ b.toNat ≤ 57 ∧ el st.1 st.2 ≤ el mostL st.2 then some (st.1.set st.2 (10 * el st.1 st.2 + ((b.toNat - 48 : Nat) : Int)), st.2)
  else none
def rdF : List UInt8 → List Int × Nat → Option (List Int × Nat)
  | [], st => some st
  | b :: l, st => (rdStep st b).bind (rdF l)
theorem rdF_append (a b : List UInt8) : ∀ st, rdF (a ++ b) st = (rdF a st).bind (rdF b) := by
  induction a with
  | nil => intro st; rfl
  | cons x a ih =>
    intro st
    show (rdStep st x).bind (rdF (a ++ b)) = ((rdStep st x).bind (rdF a)).bind (rdF b)
    cases rdStep st x with
    | none => rfl
    | some s => exact ih s
theorem el_set {fs : List Int} {p : Nat} {v : Int} (h : p < fs.length) : el (fs.set p v) p = v := by simp [el, List.getD, h]
theorem set_el {fs : List Int} {p : Nat} : fs.set p (el fs p) = fs := by
  apply List.ext_getElem?
  intro i
  by_cases h : i = p
  · subst h
    by_cases hl : i < fs.length
    · simp [el, List.getD, hl]
    · simp [hl]
  · rw [List.getElem?_set_ne (by omega)]
theorem rd_digits (p : Nat) : ∀ (ds : List UInt8) (fs : List Int) (acc : Nat), (∀ b ∈ ds, isDig b) → p < fs.length → el fs p = (acc : Int) → (val acc ds : Int) ≤ el mostL p → rdF ds (fs, p) = some (fs.set p (val acc ds : Int), p)
  | [], fs, acc, _, _, he, _ => by
    show some (fs, p) = _
    rw [val_nil, ← he, set_el]
  | b :: ds, fs, acc, hd, hp, he, hle => by
    have hb := hd b (.head _)
    unfold isDig at hb
    have hv : val acc (b :: ds) = val (10 * acc + (b.toNat - 48)) ds := val_cons acc b ds
    have h1 := val_ge ds (10 * acc + (b.toNat - 48))
    rw [hv] at hle ⊢
    have hst : rdStep (fs, p) b = some (fs.set p ((10 * acc + (b.toNat - 48) : Nat) : Int), p) := by
      unfold rdStep
      rw [if_neg (by intro h; omega), if_pos ⟨by omega, by omega, by show el fs p ≤ el mostL p; rw [he]; omega⟩]
      show some (fs.set p (10 * el fs p + ((b.toNat - 48 : Nat) : Int)), p) = _
      rw [he]
      simp
    show (rdStep (fs, p) b).bind (rdF ds) = _
    rw [hst]
    show rdF ds (fs.set p _, p) = _
    rw [rd_digits p ds _ (10 * acc + (b.toNat - 48)) (fun x hx => hd x (.tail _ hx)) (by simpa using hp) (el_set hp) hle, List.set_set]
theorem rd_word (p : Nat) (fs : List Int) (v : Int) (hp : p < fs.length) (h0 : el fs p = 0) (hv0 : 0 ≤ v) (hv1 : v ≤ el mostL p) (hv2 : v ≤ 1000) : rdF (itoa v) (fs, p) = some (fs.set p v, p) := by
  rcases itoa_looks v (by omega) (by omega) with ⟨_, h, _⟩ | ⟨a, _, _⟩
  · have e : val 0 (decDigits v.toNat) = v.toNat := val_decDigits _
    rw [h, rd_digits p _ fs 0 (fun b hb => decDigits_dig _ b hb) hp (by simpa using h0) (by rw [e]; omega), e]
    congr 3
    omega
  · omega
theorem rd_blank (p : Nat) (fs : List Int) (r : List UInt8) (hp : p < 8) : rdF (32 :: r) (fs, p) = rdF r (fs, p + 1) := by
  show (rdStep (fs, p) 32).bind (rdF r) = _
  have : rdStep (fs, p) 32 = some (fs, p + 1) := by unfold rdStep; rw [if_pos ⟨rfl, hp⟩]
  rw [this]
  rfl
theorem rd_all {vs : List Int} (h9 : vs.length = 9) (h : okL vs = true) : rdF (psT vs) ([0, 0, 0, 0, 0, 0, 0, 0, 0], 0) = some (vs, 8) := by
  have hb := okL_in h9 h
  obtain ⟨f0, f1, f2, f3, f4, f5, f6, f7, f8, rfl⟩ : ∃ f0 f1 f2 f3 f4 f5 f6 f7 f8, vs = [f0, f1, f2, f3, f4, f5, f6, f7, f8] := by
    match vs, h9 with
    | [f0, f1, f2, f3, f4, f5, f6, f7, f8], _ => exact ⟨f0, f1, f2, f3, f4, f5, f6, f7, f8, rfl⟩
  unfold okL setOk at h
  simp only [el, List.getD_cons_zero, List.getD_cons_succ, Bool.and_eq_true] at h
  obtain ⟨⟨⟨⟨⟨⟨⟨⟨g0, g1⟩, g2⟩, g3⟩, g4⟩, g5⟩, g6⟩, g7⟩, g8⟩ := h
  have a0 := inB_bd g0; have a1 := inB_bd g1; have a2 := inB_bd g2; have a3 := inB_bd g3; have a4 := inB_bd g4; have a5 := inB_bd g5; have a6 := inB_bd g6; have a7 := inB_bd g7; have a8 := inB_bd g8
  have w := fun (p : Nat) (fs : List Int) (v : Int) (r : List UInt8) (hp : p < fs.length) (h0 : el fs p = 0) (hv0 : 0 ≤ v) (hv1 : v ≤ el mostL p) (hv2 : v ≤ 1000) => (show rdF (itoa v ++ r) (fs, p) = rdF r (fs.set p v, p) by rw [rdF_append, rd_word p fs v hp h0 hv0 hv1 hv2]; rfl)
  have e : psT [f0, f1, f2, f3, f4, f5, f6, f7, f8] = itoa f0 ++ 32 :: (itoa f1 ++ 32 :: (itoa f2 ++ 32 :: (itoa f3 ++ 32 :: (itoa f4 ++ 32 :: (itoa f5 ++ 32 :: (itoa f6 ++ 32 :: (itoa f7 ++ 32 :: itoa f8))))))) := by simp [psT, join_cons, joinTail]
  rw [e, w 0 _ f0 _ (by simp) rfl (by omega) a0.2 (by omega), rd_blank 0 _ _ (by omega), w 1 _ f1 _ (by simp) rfl (by omega) a1.2 (by omega), rd_blank 1 _ _ (by omega), w 2 _ f2 _ (by simp) rfl (by omega) a2.2 (by omega), rd_blank 2 _ _ (by omega),
    w 3 _ f3 _ (by simp) rfl (by omega) a3.2 (by omega), rd_blank 3 _ _ (by omega), w 4 _ f4 _ (by simp) rfl (by omega) a4.2 (by omega), rd_blank 4 _ _ (by omega), w 5 _ f5 _ (by simp) rfl (by omega) a5.2 (by omega), rd_blank 5 _ _ (by omega),
    w 6 _ f6 _ (by simp) rfl (by omega) a6.2 (by omega), rd_blank 6 _ _ (by omega), w 7 _ f7 _ (by simp) rfl (by omega) a7.2 (by omega), rd_blank 7 _ _ (by omega), rd_word 8 _ f8 (by simp) rfl (by omega) a8.2 (by omega)]
  rfl
/-- The fields stay small. -/
def smallF (fs : List Int) : Prop := fs.length = 9 ∧ ∀ x ∈ fs, 0 ≤ x ∧ x ≤ 10009
theorem most_le (p : Nat) : el mostL p ≤ 1000 := by
  by_cases h : p < 9
  · have h9 : p = 0 ∨ p = 1 ∨ p = 2 ∨ p = 3 ∨ p = 4 ∨ p = 5 ∨ p = 6 ∨ p = 7 ∨ p = 8 := by omega
    rcases h9 with rfl | rfl | rfl | rfl | rfl | rfl | rfl | rfl | rfl <;> decide
  · have : mostL.length ≤ p := by show 9 ≤ p; omega
    simp [el, List.getD, List.getElem?_eq_none this]
theorem rdStep_small {fs fs' : List Int} {p p' : Nat} {b : UInt8} (h : smallF fs ∧ p ≤ 8) (hs : rdStep (fs, p) b = some (fs', p')) : smallF fs' ∧ p' ≤ 8 := by
  obtain ⟨⟨h9, hx⟩, hp⟩ := h
  unfold rdStep at hs
  simp only at hs
  split at hs
  · rename_i h1
    injection hs with hs
    injection hs with e1 e2
    subst e1; subst e2
    exact ⟨⟨h9, hx⟩, by omega⟩
  · split at hs
    · rename_i h1 h2
      injection hs with hs
      injection hs with e1 e2
      subst e1; subst e2
      have hm := most_le p
      have h0 : 0 ≤ el fs p := by
        have : el fs p ∈ fs := by
          have hl : p < fs.length := by omega
          simp only [el, List.getD, List.getElem?_eq_getElem hl, Option.getD_some]
          exact List.getElem_mem hl
        exact (hx _ this).1
      refine ⟨⟨by rw [List.length_set]; exact h9, fun x hxm => ?_⟩, hp⟩
      rcases List.mem_or_eq_of_mem_set hxm with h3 | h3
      · exact hx x h3
      · subst h3; omega
    · cases hs
end Go.Proofs.YtalelcloppbhcaaDoor
