/- Plain: reading decimal numerals, cutting at a byte. No program. -/
import Derived.Test.YtalelcloppbhcaaDoorPlainNum
import Derived.Lib.AtoiAllCases
import Derived.Lib.Strings
import Derived.Laws.Strings
namespace Go.Proofs.YtalelcloppbhcaaDoor
open Go.Lib (decDigits itoa nDigits)

/-- What a run of digits is worth behind acc. -/
def val (acc : Nat) (l : List UInt8) : Nat := l.foldl (fun a b => 10 * a + (b.toNat - 48)) acc
def isDig (b : UInt8) : Prop := 48 ≤ b.toNat ∧ b.toNat ≤ 57
theorem val_nil (acc : Nat) : val acc [] = acc := rfl
theorem val_cons (acc : Nat) (b : UInt8) (l : List UInt8) : val acc (b :: l) = val (10 * acc + (b.toNat - 48)) l := by unfold val; rw [List.foldl_cons]
theorem val_append (acc : Nat) (a b : List UInt8) : val acc (a ++ b) = val (val acc a) b := by simp [val, List.foldl_append]
theorem val_ge (l : List UInt8) : ∀ acc, acc ≤ val acc l := by
  induction l with
  | nil => intro acc; exact Nat.le_refl _
  | cons b l ih => intro acc; rw [val_cons]; exact Nat.le_trans (by omega) (ih _)

theorem dig_of (k : Nat) (h : k < 10) : (UInt8.ofNat (48 + k)).toNat = 48 + k := by
  rw [UInt8.toNat_ofNat']; omega
theorem decDigits_dig : ∀ (u : Nat), ∀ b ∈ decDigits u, isDig b := by
  intro u
  induction u using Nat.strongRecOn with
  | ind u ih =>
    intro b hb
    rw [decDigits] at hb
    by_cases h : u < 10
    · rw [dif_pos h] at hb
      obtain rfl := List.mem_singleton.1 hb
      unfold isDig; rw [dig_of u h]; omega
    · rw [dif_neg h] at hb
      rcases List.mem_append.1 hb with hb | hb
      · exact ih (u / 10) (by omega) b hb
      · obtain rfl := List.mem_singleton.1 hb
        unfold isDig; rw [dig_of (u % 10) (by omega)]; omega
theorem val_decDigits : ∀ (u : Nat), val 0 (decDigits u) = u := by
  intro u
  induction u using Nat.strongRecOn with
  | ind u ih =>
    rw [decDigits]
    by_cases h : u < 10
    · rw [dif_pos h, val_cons, val_nil, dig_of u h]; omega
    · rw [dif_neg h, val_append, ih (u / 10) (by omega), val_cons, val_nil, dig_of (u % 10) (by omega)]; omega

/-- A run of digits is read by Go's Atoi as what it is worth. -/
theorem parse_val (l : List UInt8) : ∀ acc, (∀ b ∈ l, isDig b) → val acc l < 100000000000000000 → Go.Lib.parseUint10 acc l = .ok (val acc l) := by
  induction l with
  | nil => intro acc _ _; rfl
  | cons b l ih =>
    intro acc hd hv
    have hb := hd b (.head _)
    rw [val_cons] at hv ⊢
    have hg := val_ge l (10 * acc + (b.toNat - 48))
    rw [Go.Lib.parseUint10, if_pos (show 48 ≤ b.toNat ∧ b.toNat ≤ 57 from hb), if_neg (by omega), if_neg (by omega)]
    have e : acc * 10 + (b.toNat - 48) = 10 * acc + (b.toNat - 48) := by omega
    rw [e]
    exact ih _ (fun x hx => hd x (.tail _ hx)) hv
theorem atoi_val (l : List UInt8) (h0 : l ≠ []) (hd : ∀ b ∈ l, isDig b) (hv : val 0 l < 100000000000000000) : Go.Lib.atoiAll l = .ok (val 0 l : Int) := by
  cases l with
  | nil => exact absurd rfl h0
  | cons c r =>
    have hc := hd c (.head _)
    unfold isDig at hc
    rw [Go.Lib.atoiAll_plain c r (by omega) (by omega)]
    unfold Go.Lib.parseMag
    rw [if_neg (by simp), parse_val _ 0 hd hv]
    unfold Go.Lib.signless
    simp only
    rw [if_neg (by omega)]

/-- The bytes from a up to b. -/
def piece (l : List UInt8) (a b : Nat) : List UInt8 := (l.take b).drop a
theorem piece_len (l : List UInt8) (a b : Nat) (h : b ≤ l.length) : (piece l a b).length = b - a := by simp [piece]; omega

/-- The parts of the first k bytes that are whole, and where the next begins. -/
def cutTo (y : UInt8) (l : List UInt8) : Nat → List (List UInt8) × Nat
  | 0 => ([], 0)
  | k + 1 => if l[k]? = some y then ((cutTo y l k).1 ++ [piece l (cutTo y l k).2 k], k + 1) else cutTo y l k
def cutAll (y : UInt8) (l : List UInt8) : List (List UInt8) := (cutTo y l l.length).1 ++ [piece l (cutTo y l l.length).2 l.length]
theorem cutTo_le (y : UInt8) (l : List UInt8) (k : Nat) : (cutTo y l k).2 ≤ k := by
  induction k with
  | zero => exact Nat.le_refl _
  | succ k ih =>
    unfold cutTo
    split
    · exact Nat.le_refl _
    · omega
theorem cutTo_len (y : UInt8) (l : List UInt8) (k : Nat) : (cutTo y l k).1.length ≤ k := by
  induction k with
  | zero => exact Nat.le_refl _
  | succ k ih =>
    unfold cutTo
    split
    · simp; omega
    · omega
theorem cutTo_none (y : UInt8) (l : List UInt8) (j : Nat) (k : Nat) (h : ∀ i, j ≤ i → i < k → l[i]? ≠ some y) (hjk : j ≤ k) : cutTo y l k = cutTo y l j := by
  induction k with
  | zero => obtain rfl : j = 0 := by omega
            rfl
  | succ k ih =>
    by_cases e : j = k + 1
    · rw [e]
    · rw [cutTo, if_neg (h k (by omega) (by omega))]
      exact ih (fun i h1 h2 => h i h1 (by omega)) (by omega)
theorem cutTo_flat (y : UInt8) (l : List UInt8) (k : Nat) (hk : k ≤ l.length) : (cutTo y l k).1.flatten.length ≤ (cutTo y l k).2 := by
  induction k with
  | zero => exact Nat.le_refl _
  | succ k ih =>
    have hle := cutTo_le y l k
    have := ih (by omega)
    unfold cutTo
    split
    · rw [List.flatten_append, List.length_append]
      simp only [List.flatten_cons, List.flatten_nil, List.append_nil]
      rw [piece_len _ _ _ (by omega)]
      omega
    · exact this
theorem cutAll_flat (y : UInt8) (l : List UInt8) : (cutAll y l).flatten.length ≤ l.length := by
  have h1 := cutTo_flat y l l.length (Nat.le_refl _)
  have h2 := cutTo_le y l l.length
  unfold cutAll
  rw [List.flatten_append, List.length_append]
  simp only [List.flatten_cons, List.flatten_nil, List.append_nil]
  rw [piece_len _ _ _ (Nat.le_refl _)]
  omega
/-- A text with just one such byte has two parts. -/
theorem cutAll_two (y : UInt8) (a b : List UInt8) (ha : y ∉ a) (hb : y ∉ b) : cutAll y (a ++ y :: b) = [a, b] := by
  have h1 : cutTo y (a ++ y :: b) a.length = ([], 0) := by
    rw [cutTo_none y _ 0 a.length _ (Nat.zero_le _)]
    · rfl
    · intro i _ hi e
      rw [List.getElem?_append_left hi] at e
      exact ha (List.mem_of_getElem? e)
  have h2 : cutTo y (a ++ y :: b) (a.length + 1) = ([a], a.length + 1) := by
    rw [cutTo, if_pos (by simp), h1]
    simp [piece]
  have h3 : cutTo y (a ++ y :: b) (a ++ y :: b).length = ([a], a.length + 1) := by
    rw [cutTo_none y _ (a.length + 1) _ _ (by simp), h2]
    intro i hi _ e
    rw [List.getElem?_append_right (by omega)] at e
    obtain ⟨j, rfl⟩ : ∃ j, i = a.length + 1 + j := ⟨i - (a.length + 1), by omega⟩
    rw [show a.length + 1 + j - a.length = j + 1 by omega, List.getElem?_cons_succ] at e
    exact hb (List.mem_of_getElem? e)
  unfold cutAll
  rw [h3]
  simp only [piece, List.cons_append, List.nil_append, List.take_length]
  congr 2
  rw [List.drop_append]
  simp

theorem extract_str (l : List UInt8) (a b : Nat) : (str l).extract a b = str (piece l a b) := by
  apply ByteArray.ext
  apply Array.toList_inj.1
  rw [Go.Lib.extract_data]
  show List.take (b - a) (List.drop a (str l).data.toList) = piece l a b
  rw [str_data]
  unfold piece
  rw [List.drop_take]

/-- The strings of a list of lists of bytes, as cells. -/
def strs (ls : List (List UInt8)) : List Value := ls.map fun l => .string (str l)
theorem strs_snoc (ls : List (List UInt8)) (x : List UInt8) : strs ls ++ [.string (str x)] = strs (ls ++ [x]) := by simp [strs]

/-- Where the loop over the bytes stands at its k-th head: the last round closes the last part. -/
def cutSt (y : UInt8) (l : List UInt8) (k : Nat) : List (List UInt8) × Nat := if k ≤ l.length then cutTo y l k else (cutAll y l, l.length + 1)
theorem cutSt_le (y : UInt8) (l : List UInt8) (k : Nat) (h : k ≤ l.length) : (cutSt y l k).2 ≤ k := by unfold cutSt; rw [if_pos h]; exact cutTo_le y l k
theorem cutSt_len (y : UInt8) (l : List UInt8) (k : Nat) (h : k ≤ l.length) : (cutSt y l k).1.length ≤ l.length := by unfold cutSt; rw [if_pos h]; exact Nat.le_trans (cutTo_len y l k) h
theorem cutSt_hit (y : UInt8) (l : List UInt8) (k : Nat) (h : k < l.length) (hy : l[k]? = some y) : cutSt y l (k + 1) = ((cutSt y l k).1 ++ [piece l (cutSt y l k).2 k], k + 1) := by
  unfold cutSt; rw [if_pos (by omega), if_pos (by omega), cutTo, if_pos hy]
theorem cutSt_miss (y : UInt8) (l : List UInt8) (k : Nat) (h : k < l.length) (hy : l[k]? ≠ some y) : cutSt y l (k + 1) = cutSt y l k := by
  unfold cutSt; rw [if_pos (by omega), if_pos (by omega), cutTo, if_neg hy]
theorem cutSt_last (y : UInt8) (l : List UInt8) : cutSt y l (l.length + 1) = ((cutSt y l l.length).1 ++ [piece l (cutSt y l l.length).2 l.length], l.length + 1) := by
  unfold cutSt; rw [if_neg (by omega), if_pos (Nat.le_refl _)]; rfl
theorem cutSt_end (y : UInt8) (l : List UInt8) : (cutSt y l (l.length + 1)).1 = cutAll y l := by unfold cutSt; rw [if_neg (by omega)]
theorem beq_str (a b : List UInt8) : ((str a).toList == (str b).toList) = decide (a = b) := by
  rw [Go.ByteArray.toList_eq, Go.ByteArray.toList_eq, str_data, str_data]
  by_cases h : a = b <;> simp [h]
theorem bne_str (a b : List UInt8) : ((str a).toList != (str b).toList) = decide (a ≠ b) := by
  rw [bne, beq_str]
  by_cases h : a = b <;> simp [h]
theorem str_get (l : List UInt8) (k : Nat) (hk : k < l.length) (hb : k < (str l).size) : (str l)[k]'hb = l[k]'hk := rfl
theorem byte_hit {l : List UInt8} {y : UInt8} {k : Nat} (hk : k < l.length) (hb : k < (str l).size) (h : ((((str l)[k]'hb).toNat : Int) == (y.toNat : Int)) = true) : l[k]? = some y := by
  rw [str_get l k hk hb] at h
  have h2 : (l[k]'hk).toNat = y.toNat := by have := beq_iff_eq.1 h; omega
  rw [List.getElem?_eq_getElem hk, UInt8.toNat_inj.1 h2]
theorem byte_miss {l : List UInt8} {y : UInt8} {k : Nat} (hk : k < l.length) (hb : k < (str l).size) (h : ((((str l)[k]'hb).toNat : Int) == (y.toNat : Int)) = false) : l[k]? ≠ some y := by
  rw [str_get l k hk hb] at h
  intro h2
  rw [List.getElem?_eq_getElem hk] at h2
  rw [Option.some.inj h2] at h
  simp at h

theorem val_lt (l : List UInt8) : ∀ acc, (∀ b ∈ l, isDig b) → val acc l < (acc + 1) * 10 ^ l.length := by
  induction l with
  | nil => intro acc _; simp [val_nil]
  | cons b l ih =>
    intro acc hd
    have hb := hd b (.head _)
    unfold isDig at hb
    have h := ih (10 * acc + (b.toNat - 48)) (fun x hx => hd x (.tail _ hx))
    rw [val_cons, List.length_cons, Nat.pow_succ]
    refine Nat.lt_of_lt_of_le h ?_
    rw [Nat.mul_comm (10 ^ l.length) 10, ← Nat.mul_assoc]
    exact Nat.mul_le_mul_right _ (by omega)
/-- A run of at most ten digits is worth less than 10000000000. -/
theorem val_ten (l : List UInt8) (k : Nat) (hk : k ≤ 10) (hd : ∀ b ∈ l.take k, isDig b) : val 0 (l.take k) < 10000000000 := by
  have h := val_lt (l.take k) 0 hd
  have h2 : 10 ^ (l.take k).length ≤ 10 ^ 10 := Nat.pow_le_pow_right (by omega) (by rw [List.length_take]; omega)
  have : (10 : Nat) ^ 10 = 10000000000 := by decide
  omega
/-- All of the first k bytes are digits. -/
def digTo (l : List UInt8) (k : Nat) : Prop := ∀ b ∈ l.take k, isDig b
theorem digTo_zero (l : List UInt8) : digTo l 0 := by intro b hb; simp at hb
theorem digTo_succ (l : List UInt8) (k : Nat) (hk : k < l.length) (h : digTo l k) (hb : isDig (l[k]'hk)) : digTo l (k + 1) := by
  intro b hm
  rw [List.take_succ_eq_append_getElem hk] at hm
  rcases List.mem_append.1 hm with hm | hm
  · exact h b hm
  · obtain rfl := List.mem_singleton.1 hm; exact hb
theorem val_succ (l : List UInt8) (k : Nat) (hk : k < l.length) : val 0 (l.take (k + 1)) = 10 * val 0 (l.take k) + ((l[k]'hk).toNat - 48) := by
  rw [List.take_succ_eq_append_getElem hk, val_append, val_cons, val_nil]

/-- What a word reads as: v, and whether v is written so. -/
def ReadIs (l : List UInt8) (v : Int) (ok : Bool) : Prop := -10000000000 < v ∧ v < 10000000000 ∧ (ok = true → itoa v = l) ∧ (ok = false → ∀ x : Int, -10000000000 < x → x < 10000000000 → itoa x ≠ l)

theorem nDigits_ten (u : Nat) (h : u < 10000000000) : nDigits u ≤ 10 := by
  by_cases h0 : u < 10
  · rw [Go.Lib.nDigits_small h0]; omega
  · rw [Go.Lib.nDigits_big h0]
    have : ∀ (k u : Nat), u < 10 ^ (k + 1) → nDigits u ≤ k + 1 := by
      intro k
      induction k with
      | zero => intro u h; rw [Go.Lib.nDigits_small (by simpa using h)]; omega
      | succ k ih =>
        intro u h
        by_cases h1 : u < 10
        · rw [Go.Lib.nDigits_small h1]; omega
        · rw [Go.Lib.nDigits_big h1]
          have := ih (u / 10) (by rw [Nat.pow_succ] at h; omega)
          omega
    have := this 8 (u / 10) (by have : (10 : Nat) ^ 9 = 1000000000 := by decide
                                omega)
    omega
/-- How the numeral of a number looks. -/
theorem itoa_looks (x : Int) (h1 : -10000000000 < x) (h2 : x < 10000000000) :
    (0 ≤ x ∧ itoa x = decDigits x.toNat ∧ (decDigits x.toNat).length ≤ 10) ∨ (x < 0 ∧ itoa x = 45 :: decDigits x.natAbs ∧ (decDigits x.natAbs).length ≤ 10) := by
  by_cases h : x < 0
  · exact .inr ⟨h, by unfold itoa; rw [if_pos h], by rw [Go.Lib.decDigits_length]; exact nDigits_ten _ (by omega)⟩
  · exact .inl ⟨by omega, by unfold itoa; rw [if_neg h], by rw [Go.Lib.decDigits_length]; exact nDigits_ten _ (by omega)⟩
theorem decDigits_ne (u : Nat) : decDigits u ≠ [] := by
  intro h
  have := congrArg List.length h
  rw [Go.Lib.decDigits_length] at this
  have := Go.Lib.nDigits_pos u
  simp at *
  omega
theorem itoa_head (x : Int) (h1 : -10000000000 < x) (h2 : x < 10000000000) : itoa x ≠ [] := by
  rcases itoa_looks x h1 h2 with ⟨_, h, _⟩ | ⟨_, h, _⟩ <;> rw [h]
  · exact decDigits_ne _
  · simp
/-- No numeral without a sign but digits; at most ten. -/
theorem read_no_plain (c : UInt8) (r : List UInt8) (hc : c.toNat ≠ 45) (hbad : 10 < (c :: r).length ∨ ∃ b ∈ c :: r, ¬ isDig b) : ReadIs (c :: r) 0 false := by
  refine ⟨by omega, by omega, (fun h => by cases h), fun _ x h1 h2 e => ?_⟩
  rcases itoa_looks x h1 h2 with ⟨_, h, hl⟩ | ⟨_, h, hl⟩
  · rw [h] at e
    rcases hbad with hb | ⟨b, hb, hn⟩
    · rw [← e] at hb; omega
    · rw [← e] at hb; exact hn (decDigits_dig _ b hb)
  · rw [h] at e
    injection e with e1 _
    rw [← e1] at hc
    exact hc rfl
theorem read_no_minus (r : List UInt8) (hbad : r = [] ∨ 10 < r.length ∨ ∃ b ∈ r, ¬ isDig b) : ReadIs (45 :: r) 0 false := by
  refine ⟨by omega, by omega, (fun h => by cases h), fun _ x h1 h2 e => ?_⟩
  rcases itoa_looks x h1 h2 with ⟨_, h, hl⟩ | ⟨_, h, hl⟩
  · rw [h] at e
    have := decDigits_dig x.toNat 45 (by rw [e]; exact .head _)
    unfold isDig at this
    revert this; decide
  · rw [h] at e
    injection e with _ e2
    rcases hbad with hb | hb | ⟨b, hb, hn⟩
    · exact decDigits_ne _ (e2.trans hb)
    · rw [← e2] at hb; omega
    · rw [← e2] at hb; exact hn (decDigits_dig _ b hb)
theorem read_no_nil : ReadIs [] 0 false := ⟨by omega, by omega, (fun h => by cases h), fun _ x h1 h2 e => itoa_head x h1 h2 e⟩
/-- What all digits come to, without a sign and with one. -/
theorem read_plain (l : List UInt8) (hd : ∀ b ∈ l, isDig b) (hv : val 0 l < 10000000000) : ReadIs l (val 0 l : Int) (decide (itoa (val 0 l : Int) = l)) := by
  refine ⟨by omega, by omega, fun h => of_decide_eq_true h, fun h x h1 h2 e => ?_⟩
  have hne := of_decide_eq_false h
  rcases itoa_looks x h1 h2 with ⟨hx, h3, _⟩ | ⟨_, h3, _⟩
  · apply hne
    have ev : val 0 l = x.toNat := by rw [← e, h3, val_decDigits]
    rw [ev, ← e]
    congr 1
    omega
  · rw [h3] at e
    have := hd 45 (by rw [← e]; exact .head _)
    unfold isDig at this
    revert this; decide
theorem read_minus (r : List UInt8) (_hd : ∀ b ∈ r, isDig b) (hv : val 0 r < 10000000000) : ReadIs (45 :: r) (-(val 0 r : Int)) (decide (itoa (-(val 0 r : Int)) = 45 :: r)) := by
  refine ⟨by omega, by omega, fun h => of_decide_eq_true h, fun h x h1 h2 e => ?_⟩
  have hne := of_decide_eq_false h
  rcases itoa_looks x h1 h2 with ⟨hx, h3, _⟩ | ⟨hx, h3, _⟩
  · rw [h3] at e
    have := decDigits_dig x.toNat 45 (by rw [e]; exact .head _)
    unfold isDig at this
    revert this; decide
  · apply hne
    rw [h3] at e
    injection e with _ e2
    have ev : val 0 r = x.natAbs := by rw [← e2, val_decDigits]
    rw [ev, ← e2, ← h3]
    congr 1
    omega

end Go.Proofs.YtalelcloppbhcaaDoor
