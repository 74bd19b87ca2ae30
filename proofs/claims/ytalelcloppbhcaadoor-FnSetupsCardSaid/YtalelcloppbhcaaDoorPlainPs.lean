/- Texts of settings: a text cut at each blank and joined again; numerals tell their numbers apart. -/
import Derived.Test.YtalelcloppbhcaaDoorPlainRead
import Derived.Test.YtalelcloppbhcaaDoorSetup1
import Derived.Lib.Join
namespace Go.Proofs.YtalelcloppbhcaaDoor
open Go.RowKit Go.Lib

theorem piece_shift (p r : List UInt8) (i k : Nat) : piece (p ++ r) (p.length + i) (p.length + k) = piece r i k := by
  unfold piece
  rw [List.take_length_add_append, List.drop_length_add_append]
theorem cutTo_shift (y : UInt8) (a r : List UInt8) (ha : y ∉ a) : ∀ k, cutTo y (a ++ y :: r) (a.length + 1 + k) = (a :: (cutTo y r k).1, a.length + 1 + (cutTo y r k).2)
  | 0 => by
    have h1 : cutTo y (a ++ y :: r) a.length = ([], 0) := by
      rw [cutTo_none y _ 0 a.length _ (Nat.zero_le _)]
      · rfl
      · intro i _ hi e
        rw [List.getElem?_append_left hi] at e
        exact ha (List.mem_of_getElem? e)
    have h2 : cutTo y (a ++ y :: r) (a.length + 1) = ([a], a.length + 1) := by
      rw [cutTo, if_pos (by simp), h1]
      simp [piece]
    rw [Nat.add_zero, h2]
    simp [cutTo]
  | k + 1 => by
    have ih := cutTo_shift y a r ha k
    have e1 : (a ++ y :: r)[a.length + 1 + k]? = r[k]? := by
      rw [List.getElem?_append_right (by omega), show a.length + 1 + k - a.length = k + 1 by omega, List.getElem?_cons_succ]
    rw [show a.length + 1 + (k + 1) = (a.length + 1 + k) + 1 by omega, cutTo, e1, ih]
    have e2 : a ++ y :: r = (a ++ [y]) ++ r := by simp
    have e3 : a.length + 1 = (a ++ [y]).length := by simp
    by_cases h : r[k]? = some y
    · rw [if_pos h, cutTo, if_pos h]
      simp only [List.cons_append]
      rw [e2, e3, piece_shift]
      rfl
    · rw [if_neg h, cutTo, if_neg h]
theorem cutAll_cons (y : UInt8) (a r : List UInt8) (ha : y ∉ a) : cutAll y (a ++ y :: r) = a :: cutAll y r := by
  unfold cutAll
  rw [show (a ++ y :: r).length = a.length + 1 + r.length by simp; omega, cutTo_shift y a r ha]
  have e2 : a ++ y :: r = (a ++ [y]) ++ r := by simp
  have e3 : a.length + 1 = (a ++ [y]).length := by simp
  simp only [List.cons_append]
  rw [e2, e3, piece_shift]
theorem cutAll_one (y : UInt8) (a : List UInt8) (ha : y ∉ a) : cutAll y a = [a] := by
  unfold cutAll
  rw [cutTo_none y a 0 a.length (fun i _ _ e => ha (List.mem_of_getElem? e)) (Nat.zero_le _)]
  simp [cutTo, piece]
theorem cutAll_join (y : UInt8) : ∀ (ps : List (List UInt8)), ps ≠ [] → (∀ p ∈ ps, y ∉ p) → cutAll y (join ps [y]) = ps
  | [], h, _ => absurd rfl h
  | [p], _, h => by rw [join_one]; exact cutAll_one y p (h p (.head _))
  | p :: q :: r, _, h => by
    have e : join (p :: q :: r) [y] = p ++ y :: join (q :: r) [y] := by simp [join_cons, joinTail]
    rw [e, cutAll_cons y p _ (h p (.head _)), cutAll_join y (q :: r) (by simp) (fun x hx => h x (.tail _ hx))]
theorem cutAll_ne (y : UInt8) (l : List UInt8) : cutAll y l ≠ [] := by simp [cutAll]
theorem join_cutAll (y : UInt8) : ∀ (n : Nat) (l : List UInt8), l.length ≤ n → join (cutAll y l) [y] = l := by
  intro n
  induction n with
  | zero =>
    intro l hl
    obtain rfl : l = [] := List.length_eq_zero_iff.1 (by omega)
    rw [cutAll_one y [] (by simp), join_one]
  | succ n ih =>
    intro l hl
    by_cases hy : y ∈ l
    · obtain ⟨a, r, rfl, ha⟩ := List.eq_append_cons_of_mem hy
      rw [cutAll_cons y a r ha, join_cons]
      have h := ih r (by simp at hl; omega)
      cases hc : cutAll y r with
      | nil => exact absurd hc (cutAll_ne y r)
      | cons x s =>
        rw [hc, join_cons] at h
        conv => rhs; rw [← h]
        simp [joinTail]
    · rw [cutAll_one y l hy, join_one]
theorem itoa_no32 (x : Int) (h1 : -10000000000 < x) (h2 : x < 10000000000) : (32 : UInt8) ∉ itoa x := by
  have hd : ∀ u, (32 : UInt8) ∉ decDigits u := fun u h => by
    have := decDigits_dig u _ h
    unfold isDig at this
    simp at this
  rcases itoa_looks x h1 h2 with ⟨_, h, _⟩ | ⟨_, h, _⟩ <;> rw [h]
  · exact hd _
  · intro hc
    rcases List.mem_cons.1 hc with h3 | h3
    · revert h3; decide
    · exact hd _ h3
theorem itoa_inj (x y : Int) (h1 : -10000000000 < x) (h2 : x < 10000000000) (k1 : -10000000000 < y) (k2 : y < 10000000000) (h : itoa x = itoa y) : x = y := by
  have hv : ∀ u v, decDigits u = decDigits v → u = v := fun u v e => by rw [← val_decDigits u, ← val_decDigits v, e]
  have hm : ∀ u v, decDigits u ≠ 45 :: decDigits v := fun u v e => by
    have := decDigits_dig u 45 (by rw [e]; exact .head _)
    unfold isDig at this
    simp at this
  rcases itoa_looks x h1 h2 with ⟨a1, a2, _⟩ | ⟨a1, a2, _⟩ <;> rcases itoa_looks y k1 k2 with ⟨b1, b2, _⟩ | ⟨b1, b2, _⟩ <;> rw [a2, b2] at h
  · have := hv _ _ h; omega
  · exact absurd h (hm _ _)
  · exact absurd h.symm (hm _ _)
  · have := hv _ _ (List.cons.inj h).2; omega
/-- The text of some numbers. -/
def psT (vs : List Int) : List UInt8 := join (vs.map itoa) [32]
theorem psT_cut (vs : List Int) (hne : vs ≠ []) (hb : ∀ x ∈ vs, -10000000000 < x ∧ x < 10000000000) : cutAll 32 (psT vs) = vs.map itoa :=
  cutAll_join 32 _ (by simpa using hne) (fun p hp => by
    obtain ⟨x, hx, rfl⟩ := List.mem_map.1 hp
    exact itoa_no32 x (hb x hx).1 (hb x hx).2)
/-- Nine numbers that are a setup's. -/
def okL (vs : List Int) : Bool := setOk (el vs 0) (el vs 1) (el vs 2) (el vs 3) (el vs 4) (el vs 5) (el vs 6) (el vs 7) (el vs 8)
theorem okL_in {vs : List Int} (h9 : vs.length = 9) (h : okL vs = true) : ∀ x ∈ vs, 0 ≤ x ∧ x ≤ 1000 := by
  obtain ⟨f0, f1, f2, f3, f4, f5, f6, f7, f8, rfl⟩ : ∃ f0 f1 f2 f3 f4 f5 f6 f7 f8, vs = [f0, f1, f2, f3, f4, f5, f6, f7, f8] := by
    match vs, h9 with
    | [f0, f1, f2, f3, f4, f5, f6, f7, f8], _ => exact ⟨f0, f1, f2, f3, f4, f5, f6, f7, f8, rfl⟩
  unfold okL setOk at h
  simp only [el, List.getD_cons_zero, List.getD_cons_succ, Bool.and_eq_true] at h
  obtain ⟨⟨⟨⟨⟨⟨⟨⟨g0, g1⟩, g2⟩, g3⟩, g4⟩, g5⟩, g6⟩, g7⟩, g8⟩ := h
  have := inB_bd g0; have := inB_bd g1; have := inB_bd g2; have := inB_bd g3; have := inB_bd g4; have := inB_bd g5; have := inB_bd g6; have := inB_bd g7; have := inB_bd g8
  intro x hx
  simp only [List.mem_cons, List.not_mem_nil, or_false] at hx
  rcases hx with rfl | rfl | rfl | rfl | rfl | rfl | rfl | rfl | rfl <;> omega
theorem itoa_small (x : Int) (h0 : 0 ≤ x) (h1 : x ≤ 1000) : (itoa x).length ≤ 4 := by
  rcases itoa_looks x (by omega) (by omega) with ⟨_, h, _⟩ | ⟨a, _, _⟩
  · rw [h, decDigits_length]
    have hn : ∀ (k u : Nat), u < 10 ^ (k + 1) → nDigits u ≤ k + 1 := by
      intro k
      induction k with
      | zero => intro u h; rw [nDigits_small (by simpa using h)]; omega
      | succ k ih =>
        intro u h
        by_cases h1 : u < 10
        · rw [nDigits_small h1]; omega
        · rw [nDigits_big h1]
          have := ih (u / 10) (by rw [Nat.pow_succ] at h; omega)
          omega
    exact hn 3 x.toNat (by have : (10 : Nat) ^ 4 = 10000 := by decide
                           omega)
  · omega
theorem psT_short {vs : List Int} (h9 : vs.length = 9) (h : okL vs = true) : (psT vs).length ≤ 60 := by
  have hb := okL_in h9 h
  obtain ⟨f0, f1, f2, f3, f4, f5, f6, f7, f8, rfl⟩ : ∃ f0 f1 f2 f3 f4 f5 f6 f7 f8, vs = [f0, f1, f2, f3, f4, f5, f6, f7, f8] := by
    match vs, h9 with
    | [f0, f1, f2, f3, f4, f5, f6, f7, f8], _ => exact ⟨f0, f1, f2, f3, f4, f5, f6, f7, f8, rfl⟩
  have g := fun x hx => itoa_small x (hb x hx).1 (hb x hx).2
  have g0 := g f0 (by simp); have g1 := g f1 (by simp); have g2 := g f2 (by simp); have g3 := g f3 (by simp); have g4 := g f4 (by simp); have g5 := g f5 (by simp); have g6 := g f6 (by simp); have g7 := g f7 (by simp); have g8 := g f8 (by simp)
  simp only [psT, List.map_cons, List.map_nil, join_cons, joinTail, List.flatten_cons, List.flatten_nil, List.length_append, List.length_cons, List.length_nil]
  omega
theorem map_inj : ∀ (xs ys : List Int), (∀ x ∈ xs, -10000000000 < x ∧ x < 10000000000) → (∀ x ∈ ys, -10000000000 < x ∧ x < 10000000000) → xs.map itoa = ys.map itoa → xs = ys
  | [], [], _, _, _ => rfl
  | [], _ :: _, _, _, h => by simp at h
  | _ :: _, [], _, _, h => by simp at h
  | x :: xs, y :: ys, hx, hy, h => by
    simp only [List.map_cons, List.cons.injEq] at h
    rw [itoa_inj x y (hx x (.head _)).1 (hx x (.head _)).2 (hy y (.head _)).1 (hy y (.head _)).2 h.1, map_inj xs ys (fun z hz => hx z (.tail _ hz)) (fun z hz => hy z (.tail _ hz)) h.2]
theorem psT_inj {xs ys : List Int} (hx : xs.length = 9) (hy : ys.length = 9) (bx : ∀ x ∈ xs, -10000000000 < x ∧ x < 10000000000) (by_ : ∀ x ∈ ys, -10000000000 < x ∧ x < 10000000000) (h : psT xs = psT ys) : xs = ys := by
  have n : ∀ zs : List Int, zs.length = 9 → zs ≠ [] := fun zs h e => by rw [e] at h; simp at h
  have e1 := psT_cut xs (n xs hx) bx
  have e2 := psT_cut ys (n ys hy) by_
  rw [h, e2] at e1
  exact (map_inj ys xs by_ bx e1).symm
/-- A text is no setup's. -/
def NoPs (l : List UInt8) : Prop := ∀ vs : List Int, vs.length = 9 → okL vs = true → l ≠ psT vs
theorem okL_wide {vs : List Int} (h9 : vs.length = 9) (h : okL vs = true) : ∀ x ∈ vs, -10000000000 < x ∧ x < 10000000000 := fun x hx => by have := okL_in h9 h x hx; omega
theorem no_long {l : List UInt8} (h : 60 < l.length) : NoPs l := fun vs h9 hk e => by have := psT_short h9 hk; rw [← e] at this; omega
theorem no_count {l : List UInt8} (h : (cutAll 32 l).length ≠ 9) : NoPs l := fun vs h9 hk e => h (by
  rw [e, psT_cut vs (by intro z; rw [z] at h9; simp at h9) (okL_wide h9 hk), List.length_map, h9])
theorem no_word {l : List UInt8} {k : Nat} {v : Int} (hk : k < (cutAll 32 l).length) (h : ReadIs ((cutAll 32 l)[k]'hk) v false) : NoPs l := fun vs h9 ho e => by
  have hc := psT_cut vs (by intro z; rw [z] at h9; simp at h9) (okL_wide h9 ho)
  rw [← e] at hc
  have hkv : k < vs.length := by have h2 : (cutAll 32 l).length = vs.length := by rw [hc, List.length_map]
                                 omega
  have hx := okL_wide h9 ho _ (List.getElem_mem hkv)
  refine h.2.2.2 rfl (vs[k]'hkv) hx.1 hx.2 ?_
  have : (cutAll 32 l)[k]? = (vs.map itoa)[k]? := by rw [hc]
  rw [List.getElem?_eq_getElem hk, List.getElem?_map, List.getElem?_eq_getElem hkv] at this
  exact (Option.some.inj this).symm
theorem ps_all {l : List UInt8} {xs : List Int} (h : cutAll 32 l = xs.map itoa) : l = psT xs := by
  have := join_cutAll 32 l.length l (Nat.le_refl _)
  rw [h] at this
  exact this.symm
theorem no_bad {xs : List Int} (h9 : xs.length = 9) (hb : ∀ x ∈ xs, -10000000000 < x ∧ x < 10000000000) (h : okL xs = false) : NoPs (psT xs) := fun vs k9 hk e => by
  have := psT_inj h9 k9 hb (okL_wide k9 hk) e
  rw [this, hk] at h
  cases h
end Go.Proofs.YtalelcloppbhcaaDoor
