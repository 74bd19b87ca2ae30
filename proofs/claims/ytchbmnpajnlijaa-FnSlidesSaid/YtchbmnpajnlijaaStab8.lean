/- The sorts of a part of a row of aggs. (made by tools/mkstab.py) -/
import Derived.Test.YtchbmnpajnlijaaStab7
namespace Go.Proofs.Ytchbmnpajnlijaa
open Go.RowKit Stab
/-- The cells from a up to b. -/
def cutL (L : List Ag) (a b : Nat) : List Ag := (L.drop a).take (b - a)
section
variable {L L' Z : List Ag} {a b m s k : Nat}
theorem cutL_len (hb : b ≤ L.length) : (cutL L a b).length = b - a := by unfold cutL; rw [List.length_take, List.length_drop]; omega
theorem cut3 (hab : a ≤ b) : L = L.take a ++ cutL L a b ++ L.drop b := by
  unfold cutL
  have h1 : L.drop b = (L.drop a).drop (b - a) := by rw [List.drop_drop]; congr 1; omega
  rw [h1, List.append_assoc, List.take_append_drop, List.take_append_drop]
theorem cut_two (h1 : a ≤ m) (h2 : m ≤ b) : cutL L a b = cutL L a m ++ cutL L m b := by
  unfold cutL
  have e : b - a = (m - a) + (b - m) := by omega
  rw [e, List.take_add, List.drop_drop]
  congr 3
  omega
theorem srt_cut (hs : SrtOn aheadA (ael L) a b) (hab : a ≤ b) (hb : b ≤ L.length) : Srt aheadA (cutL L a b) := by
  refine srt_of_on aD (P := L.take a) (R := L.drop b) ?_
  rw [← cut3 hab, cutL_len hb, List.length_take, Nat.min_eq_left (by omega), show a + (b - a) = b by omega]
  exact hs
/-- L' is L with the cells from a up to b sorted. -/
structure Repl (L L' : List Ag) (a b : Nat) : Prop where
  kin : Kin aheadA L' L
  out : ∀ i, i < a ∨ b ≤ i → ael L' i = ael L i
  srt : SrtOn aheadA (ael L') a b
theorem Repl.of (hab : a ≤ b) (hb : b ≤ L.length) (h : StS aheadA Z (cutL L a b)) : Repl L (L.take a ++ Z ++ L.drop b) a b := by
  have hl : Z.length = b - a := by rw [h.kin.len, cutL_len hb]
  have hta : (L.take a).length = a := by rw [List.length_take]; omega
  refine ⟨?_, fun i hi => ?_, ?_⟩
  · have := Kin.in_ (P := L.take a) (S := L.drop b) h.kin
    rw [← cut3 hab] at this
    exact this
  · rcases hi with hi | hi
    · simp only [ael, rel, List.getD_eq_getElem?_getD]
      rw [List.append_assoc, List.getElem?_append_left (by omega), List.getElem?_take_of_lt hi]
    · simp only [ael, rel, List.getD_eq_getElem?_getD]
      rw [List.getElem?_append_right (by rw [List.length_append]; omega), List.getElem?_drop]
      congr 2
      rw [List.length_append]; omega
  · have := srtOn_of aD (P := L.take a) (X := Z) (R := L.drop b) h.srt
    rw [hta, hl, show a + (b - a) = b by omega] at this
    exact this
/-- Sorted in blocks of s, up to a. -/
def BS1 (L : List Ag) (s a : Nat) : Prop := ∀ i j, i < j → j < a → i / s = j / s → aheadA (ael L j) (ael L i) = false
/-- Sorted in blocks of s, from a on. -/
def BS2 (L : List Ag) (s a n : Nat) : Prop := ∀ i j, a ≤ i → i < j → j < n → i / s = j / s → aheadA (ael L j) (ael L i) = false
theorem div_at {i : Nat} (h1 : k * s ≤ i) (h2 : i < (k + 1) * s) : i / s = k := Nat.div_eq_of_lt_le h1 h2
theorem ge_of_div {i j : Nat} (hs : 0 < s) (h : i / s = j / s) (hj : k * s ≤ j) : k * s ≤ i := by
  have := (Nat.le_div_iff_mul_le hs).2 hj
  rw [← h] at this
  exact (Nat.le_div_iff_mul_le hs).1 this
theorem BS1.step (hs : 0 < s) (h : BS1 L s (k * s)) (r : Repl L L' (k * s) b) : BS1 L' s b := fun i j hij hj he => by
  by_cases h1 : j < k * s
  · rw [r.out i (.inl (by omega)), r.out j (.inl h1)]
    exact h i j hij h1 he
  · exact r.srt i j (ge_of_div hs he (by omega)) hij hj
theorem BS2.step {n : Nat} (h : BS2 L s a n) (r : Repl L L' a b) (hab : a ≤ b) : BS2 L' s b n := fun i j hi hij hj he => by
  rw [r.out i (.inr hi), r.out j (.inr (by omega))]
  exact h i j (by omega) hij hj he
theorem BS2.on {n : Nat} (h : BS2 L s a n) (h1 : a ≤ k * s) (h2 : m ≤ (k + 1) * s) (h3 : m ≤ n) : SrtOn aheadA (ael L) (k * s) m := fun i j i1 i2 i3 =>
  h i j (by omega) i2 (by omega) (by rw [div_at i1 (by omega), div_at (s := s) (k := k) (by omega) (by omega)])
theorem BS1.two {n : Nat} (h : BS1 L s n) : BS2 L s 0 n := fun i j _ h1 h2 h3 => h i j h1 h2 h3
theorem BS1.close {n : Nat} (hs : 0 < s) (h : BS1 L (2 * s) (k * (2 * s))) (h2 : BS2 L s (k * (2 * s)) n) (hn : n ≤ k * (2 * s) + s) : BS1 L (2 * s) n := fun i j hij hj he => by
  by_cases h1 : j < k * (2 * s)
  · exact h i j hij h1 he
  · have hi : k * (2 * s) ≤ i := ge_of_div (by omega) he (by omega)
    have e : k * (2 * s) = (2 * k) * s := by rw [← Nat.mul_assoc, Nat.mul_comm k 2]
    have e2 : (2 * k + 1) * s = (2 * k) * s + s := Nat.succ_mul _ _
    exact h2 i j hi hij hj (by rw [div_at (s := s) (k := 2 * k) (by omega) (by omega), div_at (s := s) (k := 2 * k) (by omega) (by omega)])
theorem BS1.whole {n : Nat} (h : BS1 L s n) (hn : n = L.length) (hs : n ≤ s) : Srt aheadA L := by
  refine List.pairwise_iff_getElem.2 fun i j hi hj hij => ?_
  have := h i j hij (by omega) (by rw [Nat.div_eq_of_lt (by omega), Nat.div_eq_of_lt (by omega)])
  rw [show ael L j = L[j] from rel_lt aD hj, show ael L i = L[i] from rel_lt aD hi] at this
  exact this
end
theorem insertion_r (g c lo n a b : Nat) (L : List Ag) (w : World) (h : w.ownsRow lo 86 6 (.slice (some ⟨g, 0, none⟩) n c) n (flatA L)) (hab : a ≤ b) (hb : b ≤ n) (hbig : n ≤ 4294967296) :
    Calls Try.prog 134 #[(.slice (some ⟨g, 0, none⟩) n c), .int .i64 (a : Int), .int .i64 (b : Int), .func (.func 106) #[] #[]] w fun e w' => e = .returned (.tuple #[]) ∧ ∃ L', Repl L L' a b ∧ Rt 86 g c lo n w w' L' := by
  have hn := (Rt.start h).len
  have hc := cut3 (L := L) hab
  refine (insertion_x g c lo n a b (L.take a) (cutL L a b) (L.drop b) w (by rw [← hc]; exact h) (by rw [List.length_take]; omega) (by rw [List.length_take, cutL_len (by omega)]; omega) (by omega)).mono ?_
  rintro e w' ⟨rfl, Z, hZ, hr⟩
  exact ⟨rfl, _, Repl.of hab (by omega) hZ, hr⟩
theorem symMerge_r (g c lo n a m b : Nat) (L : List Ag) (w : World) (h : w.ownsRow lo 86 6 (.slice (some ⟨g, 0, none⟩) n c) n (flatA L)) (ham : a < m) (hmb : m < b) (hb : b ≤ n) (h1 : SrtOn aheadA (ael L) a m) (h2 : SrtOn aheadA (ael L) m b) (hbig : n ≤ 4294967296) :
    Calls Try.prog 135 #[(.slice (some ⟨g, 0, none⟩) n c), .int .i64 (a : Int), .int .i64 (m : Int), .int .i64 (b : Int), .func (.func 106) #[] #[]] w fun e w' => e = .returned (.tuple #[]) ∧ ∃ L', Repl L L' a b ∧ Rt 86 g c lo n w w' L' := by
  have hn := (Rt.start h).len
  have hc := cut3 (L := L) (show a ≤ b by omega)
  have hc2 := cut_two (L := L) (a := a) (m := m) (b := b) (by omega) (by omega)
  refine (symMerge_x g c lo n hbig (b - a) a m b (L.take a) (cutL L a m) (cutL L m b) (L.drop b) w (by rw [List.append_assoc (L.take a), ← hc2, ← hc]; exact h) (by rw [List.length_take]; omega) (by rw [cutL_len (by omega)]; omega) (by rw [cutL_len (by omega)]; omega) (by rw [cutL_len (by omega)]; omega) (by rw [cutL_len (by omega)]; omega) (srt_cut h1 (by omega) (by omega)) (srt_cut h2 (by omega) (by omega)) (Nat.le_refl _)).mono ?_
  rintro e w' ⟨rfl, Z, hZ, hr⟩
  rw [← hc2] at hZ
  exact ⟨rfl, _, Repl.of (by omega) (by omega) hZ, hr⟩

end Go.Proofs.Ytchbmnpajnlijaa
