/- Plain: what a text of a tick looks like, and what reads it. No program. -/
import Derived.Test.YtghbdagpclhbfaaDoorPlainRead
import Derived.Test.YtghbdagpclhbfaaDoorPlainTick
import Derived.Lib.Replace
namespace Go.Proofs.YtghbdagpclhbfaaDoor
open Go.Lib (decDigits itoa nDigits)

theorem itoa_dig (q : Int) (h : 0 ≤ q) : ∀ b ∈ itoa q, isDig b := by
  obtain ⟨u, rfl⟩ := Int.eq_ofNat_of_zero_le h
  rw [Go.Lib.itoa_nonneg]; exact decDigits_dig u
theorem itoa_val (q : Int) (h : 0 ≤ q) : (val 0 (itoa q) : Int) = q := by
  obtain ⟨u, rfl⟩ := Int.eq_ofNat_of_zero_le h
  rw [Go.Lib.itoa_nonneg, val_decDigits]
theorem byteOf_digit' (k : Int) (h0 : 0 ≤ k) (h1 : k ≤ 9) : (byteOf (48 + k)).toNat = 48 + k.toNat := by
  unfold byteOf
  have e : (48 + k).toNat = 48 + k.toNat := by omega
  rw [e]
  exact dig_of _ (by omega)
theorem pad3_dig (r : Int) (h0 : 0 ≤ r) (h1 : r ≤ 999) : ∀ b ∈ pad3 r, isDig b := by
  intro b hb
  unfold isDig
  simp only [pad3, List.mem_cons, List.not_mem_nil, or_false] at hb
  rcases hb with rfl | rfl | rfl
  · rw [byteOf_digit' _ (by omega) (by omega)]; omega
  · rw [byteOf_digit' _ (by omega) (by omega)]; omega
  · rw [byteOf_digit' _ (by omega) (by omega)]; omega
theorem pad3_val (acc : Nat) (r : Int) (h0 : 0 ≤ r) (h1 : r ≤ 999) : (val acc (pad3 r) : Int) = 1000 * (acc : Int) + r := by
  unfold pad3
  rw [val_cons, val_cons, val_cons, val_nil, byteOf_digit' _ (by omega) (by omega), byteOf_digit' _ (by omega) (by omega), byteOf_digit' _ (by omega) (by omega)]
  omega
theorem dig_not_dot {l : List UInt8} (h : ∀ b ∈ l, isDig b) : (46 : UInt8) ∉ l := by
  intro hm
  have := h 46 hm
  unfold isDig at this
  revert this; decide

def IsTick (l : List UInt8) (t : Int) : Prop := tickB t = true ∧ tickL t = l
theorem tick_parts {l : List UInt8} {t : Int} (h : IsTick l t) : 0 ≤ t / 1000 ∧ t / 1000 ≤ 1000000 ∧ 0 ≤ t % 1000 ∧ t % 1000 ≤ 999 ∧ l = itoa (t / 1000) ++ 46 :: pad3 (t % 1000) ∧ cutAll 46 l = [itoa (t / 1000), pad3 (t % 1000)] := by
  obtain ⟨ht, rfl⟩ := h
  have hb := tickB_bd ht
  have e : tickL t = itoa (t / 1000) ++ 46 :: pad3 (t % 1000) := by unfold tickL; rw [List.append_assoc]; rfl
  refine ⟨by omega, by omega, by omega, by omega, e, ?_⟩
  rw [e]
  exact cutAll_two 46 _ _ (dig_not_dot (itoa_dig _ (by omega))) (dig_not_dot (pad3_dig _ (by omega) (by omega)))
theorem tick_len {l : List UInt8} {t : Int} (h : IsTick l t) : l.length ≤ 12 := by
  obtain ⟨h1, h2, _, _, e, _⟩ := tick_parts h
  obtain ⟨u, hu⟩ := Int.eq_ofNat_of_zero_le h1
  rw [e, hu, Go.Lib.itoa_nonneg, List.length_append, Go.Lib.decDigits_length]
  have : nDigits u ≤ 8 := by
    have key : ∀ (k u : Nat), u < 10 ^ (k + 1) → nDigits u ≤ k + 1 := by
      intro k
      induction k with
      | zero => intro u h; rw [Go.Lib.nDigits_small (by simpa using h)]; omega
      | succ k ih =>
        intro u h
        by_cases h1 : u < 10
        · rw [Go.Lib.nDigits_small h1]; omega
        · rw [Go.Lib.nDigits_big h1]
          have := ih (u / 10) (by rw [Nat.pow_succ] at h; omega)
          omega
    exact key 7 u (by have : (10 : Nat) ^ 8 = 100000000 := by decide
                      omega)
  simp [pad3]
  omega
theorem tick_val {l : List UInt8} {t : Int} (h : IsTick l t) : (val 0 (itoa (t / 1000) ++ pad3 (t % 1000)) : Int) = t := by
  obtain ⟨h1, h2, h3, h4, _, _⟩ := tick_parts h
  have hv := itoa_val _ h1
  rw [val_append]
  have := pad3_val (val 0 (itoa (t / 1000))) (t % 1000) h3 h4
  rw [this, hv]
  omega
theorem tick_unique {l : List UInt8} {t t' : Int} (h : IsTick l t) (h' : IsTick l t') : t = t' := by
  have e1 := (tick_parts h).2.2.2.2.2
  have e2 := (tick_parts h').2.2.2.2.2
  rw [e1] at e2
  injection e2 with e3 e4
  injection e4 with e5 _
  rw [← tick_val h, ← tick_val h', e3, e5]

/-- What a text reads as: a tick and true, or 0 and false. -/
def ParseIs (l : List UInt8) (v : Int) (ok : Bool) : Prop := (ok = true ∧ IsTick l v) ∨ (ok = false ∧ v = 0 ∧ ∀ t, ¬ IsTick l t)
theorem parse_unique {l : List UInt8} {v v' : Int} {ok ok' : Bool} (h : ParseIs l v ok) (h' : ParseIs l v' ok') : v = v' ∧ ok = ok' := by
  rcases h with ⟨rfl, h⟩ | ⟨rfl, rfl, h⟩
  · rcases h' with ⟨rfl, h'⟩ | ⟨rfl, rfl, h'⟩
    · exact ⟨tick_unique h h', rfl⟩
    · exact absurd h (h' _)
  · rcases h' with ⟨rfl, h'⟩ | ⟨rfl, rfl, h'⟩
    · exact absurd h' (h _)
    · exact ⟨rfl, rfl⟩
theorem parse_no {l : List UInt8} (h : ∀ t, ¬ IsTick l t) : ParseIs l 0 false := .inr ⟨rfl, rfl, h⟩

/-! The steps of the model's reader. -/
theorem no_long {l : List UInt8} (h : 12 < l.length) : ∀ t, ¬ IsTick l t := fun _ ht => by have := tick_len ht; omega
theorem no_parts {l : List UInt8} (h : (cutAll 46 l).length ≠ 2) : ∀ t, ¬ IsTick l t := fun _ ht => h (by rw [(tick_parts ht).2.2.2.2.2]; rfl)
theorem no_three {l p0 p1 : List UInt8} (e : cutAll 46 l = [p0, p1]) (h : p1.length ≠ 3) : ∀ t, ¬ IsTick l t := fun _ ht => h (by
  have := (tick_parts ht).2.2.2.2.2
  rw [e] at this
  injection this with _ e2
  injection e2 with e3 _
  rw [e3]; rfl)
theorem no_read {l p0 p1 : List UInt8} {v : Int} (e : cutAll 46 l = [p0, p1]) (h : ReadIs p0 v false) : ∀ t, ¬ IsTick l t := fun t ht => by
  obtain ⟨h1, h2, _, _, _, e2⟩ := tick_parts ht
  rw [e] at e2
  injection e2 with e3 _
  exact h.2.2.2 rfl (t / 1000) (by omega) (by omega) e3.symm
theorem no_digit {l p0 p1 : List UInt8} {b : UInt8} (e : cutAll 46 l = [p0, p1]) (hb : b ∈ p1) (h : ¬ isDig b) : ∀ t, ¬ IsTick l t := fun t ht => by
  obtain ⟨_, _, h3, h4, _, e2⟩ := tick_parts ht
  rw [e] at e2
  injection e2 with _ e3
  injection e3 with e4 _
  rw [e4] at hb
  exact h (pad3_dig _ h3 h4 b hb)
theorem parse_end {l p0 p1 : List UInt8} {v : Int} (e : cutAll 46 l = [p0, p1]) (h : ReadIs p0 v true) (hne : tickText (1000 * v + (val 0 p1 : Int)) ≠ l) : ∀ t, ¬ IsTick l t := fun t ht => by
  obtain ⟨h1, h2, h3, h4, _, e2⟩ := tick_parts ht
  rw [e] at e2
  injection e2 with e3 e4
  injection e4 with e5 _
  apply hne
  have hv : v = t / 1000 := by
    have h6 := h.2.2.1 rfl
    rw [e3] at h6
    have h0 : 0 ≤ v := by
      rcases itoa_looks v h.1 h.2.1 with ⟨hh, _⟩ | ⟨_, hh, _⟩
      · exact hh
      · rw [h6] at hh
        have := itoa_dig _ h1 45 (by rw [hh]; exact .head _)
        unfold isDig at this
        exact absurd this (by decide)
    rw [← itoa_val v h0, h6, itoa_val _ h1]
  have hp : (val 0 p1 : Int) = t % 1000 := by rw [e5, pad3_val 0 _ h3 h4]; omega
  have et : 1000 * v + (val 0 p1 : Int) = t := by rw [hv, hp]; omega
  rw [et, tickText_yes ht.1, ht.2]
theorem parse_yes {l : List UInt8} {t : Int} (e : (cutAll 46 l).length = 2) (h : tickText t = l) : ParseIs l t true := by
  refine .inl ⟨rfl, ?_⟩
  cases ht : tickB t with
  | true => exact ⟨ht, by rw [← h, tickText_yes ht]⟩
  | false =>
    rw [tickText_no ht] at h
    rw [← h] at e
    exact absurd e (by decide)

/-! The steps of the program's reader. -/
theorem index_dot : ∀ (a b : List UInt8), (46 : UInt8) ∉ a → Go.Lib.index (a ++ 46 :: b) [46] = (a.length : Int) := by
  intro a
  induction a with
  | nil => intro b _; rfl
  | cons x a ih =>
    intro b h
    have hx : (46 : UInt8) ≠ x := fun e => h (by rw [e]; exact .head _)
    have hi := ih b (fun hm => h (.tail _ hm))
    rw [List.cons_append]
    show (if ([46] : List UInt8).isPrefixOf (x :: (a ++ 46 :: b)) then (0 : Int) else if Go.Lib.index (a ++ 46 :: b) [46] == -1 then -1 else Go.Lib.index (a ++ 46 :: b) [46] + 1) = _
    rw [if_neg (by simp [List.isPrefixOf, hx]), hi]
    rw [if_neg (by intro hh; have := beq_iff_eq.1 hh; omega)]
    simp
theorem replace_dot (a b : List UInt8) (ha : (46 : UInt8) ∉ a) : Go.Lib.replace (a ++ 46 :: b) [46] [] 1 = a ++ b := by
  have hi := index_dot a b ha
  have hc : 0 < Go.Lib.count (a ++ 46 :: b) [46] := by rw [Go.Lib.count_hit (by simp) hi]; omega
  unfold Go.Lib.replace
  rw [if_neg (by decide)]
  have hn : Go.Lib.replaceNum (a ++ 46 :: b) [46] 1 = 1 := by unfold Go.Lib.replaceNum; rw [if_neg (by omega)]; rfl
  rw [hn, Go.Lib.replaceK_hit [46] [] 0 _ _ hi]
  simp [Go.Lib.replaceK]
theorem atoi_tick {l : List UInt8} {t : Int} (h : IsTick l t) : Go.Lib.atoiAll (Go.Lib.replace l [46] [] 1) = .ok t := by
  have hv := tick_val h
  obtain ⟨h1, h2, h3, h4, e, _⟩ := tick_parts h
  rw [e, replace_dot _ _ (dig_not_dot (itoa_dig _ h1))]
  have hb := tickB_bd h.1
  rw [atoi_val _ (fun hh => by simp [pad3] at hh) (fun b hm => (List.mem_append.1 hm).elim (itoa_dig _ h1 b) (pad3_dig _ h3 h4 b)) (by omega), hv]
theorem replaceK_len (old : List UInt8) : ∀ (k : Nat) (s : List UInt8), (Go.Lib.replaceK old [] k s).length ≤ s.length := by
  intro k
  induction k with
  | zero => intro s; exact Nat.le_refl _
  | succ k ih =>
    intro s
    unfold Go.Lib.replaceK
    split
    · exact Nat.le_refl _
    · have := ih (s.drop ((Go.Lib.index s old).toNat + old.length))
      simp only [List.append_nil, List.length_append, List.length_take, List.length_drop] at *
      omega
theorem replace_len (l : List UInt8) : (Go.Lib.replace l [46] [] 1).length ≤ l.length := by
  unfold Go.Lib.replace
  split
  · exact Nat.le_refl _
  · exact replaceK_len _ _ _
theorem impl_yes {l : List UInt8} (t : Int) (hl : Go.Lib.atoiAll (Go.Lib.replace l [46] [] 1) = .ok t) (h : tickText t = l) : ParseIs l t true := by
  refine .inl ⟨rfl, ?_⟩
  cases ht : tickB t with
  | true => exact ⟨ht, by rw [← h, tickText_yes ht]⟩
  | false =>
    rw [tickText_no ht] at h
    rw [← h] at hl
    have h0 : (match Go.Lib.atoiAll (Go.Lib.replace [] [46] [] 1) with | .ok _ => false | _ => true) = true := by decide
    rw [hl] at h0
    cases h0
theorem impl_no {l : List UInt8} (v : Int) (hl : Go.Lib.atoiAll (Go.Lib.replace l [46] [] 1) = .ok v) (h : tickText v ≠ l) : ParseIs l 0 false := parse_no fun t ht => h (by
  rw [atoi_tick ht] at hl
  injection hl with e
  rw [← e, tickText_yes ht.1, ht.2])
theorem impl_bad {l : List UInt8} (hl : ∀ v, Go.Lib.atoiAll (Go.Lib.replace l [46] [] 1) ≠ .ok v) : ParseIs l 0 false := parse_no fun t ht => hl t (atoi_tick ht)

end Go.Proofs.YtghbdagpclhbfaaDoor
