/- Plain: the keys of the greatest counts, out of a list that is sorted by falling counts, what is alike in its order. No program of its own. -/
import Derived.Test.YtchbmnpajnlijaaPlainTop
import Derived.Test.YtchbmnpajnlijaaCntCmp
namespace Go.Proofs.Ytchbmnpajnlijaa
open Go.RowKit Stab
section
variable {α : Type} {lt : α → α → Bool}
theorem pick_first (o : Swo lt) {A B Z : List α} {z : α} (h : StS lt (z :: Z) (A ++ z :: B)) (hz : z ∉ A) : (∀ a, a ∈ A → lt z a = true) ∧ (∀ b, b ∈ B → lt b z = false) := by
  have hs := List.pairwise_cons.1 h.srt
  have hin : ∀ x, x ∈ A ++ z :: B → lt x z = false := fun x hx => by
    have := h.kin.symm.mem o hx
    rcases List.mem_cons.1 this with rfl | hm
    · exact o.irrefl _
    · exact hs.1 x hm
  refine ⟨fun a ha => ?_, fun b hb => hin b (by simp [hb])⟩
  cases e : lt z a with
  | true => rfl
  | false =>
    exfalso
    have k := h.kin.kin z
    rw [List.filter_cons_of_pos (o.self z), List.filter_append] at k
    have ha2 : a ∈ A.filter (alike lt z) := List.mem_filter.2 ⟨ha, alike_iff.2 ⟨e, hin a (by simp [ha])⟩⟩
    cases hf : A.filter (alike lt z) with
    | nil => rw [hf] at ha2; cases ha2
    | cons x X =>
      rw [hf, List.cons_append] at k
      have e2 : z = x := (List.cons.inj k).1
      have : x ∈ A.filter (alike lt z) := by rw [hf]; simp
      rw [← e2] at this
      exact hz (List.mem_filter.1 this).1
theorem pick_rest (o : Swo lt) {A B Z : List α} {z : α} (h : StS lt (z :: Z) (A ++ z :: B)) (hz : z ∉ A) : StS lt Z (A ++ B) := by
  have hp := pick_first o h hz
  refine ⟨(List.pairwise_cons.1 h.srt).2, ⟨by have := h.kin.len; simp at this ⊢; omega, fun c => ?_⟩⟩
  have k := h.kin.kin c
  rw [List.filter_append] at k ⊢
  by_cases hc : alike lt c z = true
  · have hA : A.filter (alike lt c) = [] := List.filter_eq_nil_iff.2 fun a ha e => not_both o (hp.1 a ha) e hc
    rw [List.filter_cons_of_pos hc, List.filter_cons_of_pos hc, hA] at k
    rw [hA]
    exact (List.cons.inj k).2
  · rw [List.filter_cons_of_neg hc, List.filter_cons_of_neg hc] at k
    exact k
end
/-- Not out yet. -/
def notOut (out : List Int) (S : Ag) : Bool := !out.contains S.key
theorem best_at {T T1 T2 : List Ag} {z : Ag} {out : List Int} (hT : T = T1 ++ z :: T2) (hz : out.contains z.key = false) (h1 : ∀ a, a ∈ T1 → notOut out a = true → a.cnt < z.cnt) (h2 : ∀ b, b ∈ T2 → notOut out b = true → b.cnt ≤ z.cnt) : bestTo T out T.length = (T1.length : Int) := by
  have e1 : ∀ i, i < T1.length → ael T i ∈ T1 := fun i hi => by
    rw [show ael T i = T1[i] from by
      rw [show ael T i = T[i]'(by rw [hT]; simp; omega) from rel_lt aD (by rw [hT]; simp; omega)]
      subst hT
      exact List.getElem_append_left hi]
    exact List.getElem_mem hi
  have ez : ael T T1.length = z := by
    rw [show ael T T1.length = T[T1.length]'(by rw [hT]; simp) from rel_lt aD (by rw [hT]; simp)]
    subst hT
    simp
  have e2 : ∀ i, T1.length < i → i < T.length → ael T i ∈ T2 := fun i hi hl => by
    rw [show ael T i = T[i] from rel_lt aD hl]
    subst hT
    have hl2 : i - T1.length - 1 < T2.length := by simp at hl; omega
    have : (T1 ++ z :: T2)[i] = T2[i - T1.length - 1] := by
      rw [List.getElem_append_right (by omega)]
      rw [List.getElem_cons]
      rw [dif_neg (by omega)]
    rw [this]
    exact List.getElem_mem hl2
  have c1 : ∀ i, i ≤ T1.length → bestTo T out i < 0 ∨ (ael T (bestTo T out i).toNat).cnt < z.cnt := fun i => by
    induction i with
    | zero => exact fun _ => .inl (by show (-1 : Int) < 0; omega)
    | succ i ih =>
      intro hi
      unfold bestTo
      split
      · rename_i hc
        refine .inr ?_
        rw [Int.toNat_natCast]
        exact h1 _ (e1 i (by omega)) (by unfold notOut; rw [hc.1]; rfl)
      · exact ih (by omega)
  have c2 : ∀ i, i ≤ T.length → T1.length < i → bestTo T out i = (T1.length : Int) := fun i => by
    induction i with
    | zero => exact fun _ h => by omega
    | succ i ih =>
      intro hl hi
      unfold bestTo
      rcases Nat.lt_or_ge T1.length i with h9 | h9
      · have := ih (by omega) h9
        rw [this]
        rw [if_neg]
        rintro ⟨hc, hd⟩
        have hb := h2 _ (e2 i h9 (by omega)) (by unfold notOut; rw [hc]; rfl)
        rw [Int.toNat_natCast, ez] at hd
        omega
      · obtain rfl : i = T1.length := by omega
        rw [if_pos]
        rw [ez]
        exact ⟨hz, c1 _ (Nat.le_refl _)⟩
  exact c2 _ (Nat.le_refl _) (by rw [hT]; simp)
theorem top_sorted {T Z : List Ag} (hn : (keysA T).Nodup) (h : StS Cnt.aheadA Z T) : ∀ j, j ≤ Z.length → topTo T j = (Z.take j).map (fun S => S.key) ∧ StS Cnt.aheadA (Z.drop j) (T.filter (notOut (topTo T j)))
  | 0, _ => ⟨rfl, by
      have : T.filter (notOut (topTo T 0)) = T := List.filter_eq_self.2 fun a _ => by simp [topTo, notOut]
      rw [this]
      exact h⟩
  | j + 1, hj => by
    obtain ⟨ih1, ih2⟩ := top_sorted hn h j (by omega)
    have hd : Z.drop j = Z[j] :: Z.drop (j + 1) := List.drop_eq_getElem_cons (by omega)
    rw [hd] at ih2
    generalize hzz : Z[j]'(by omega) = z at ih2 hd
    have hzm : z ∈ T.filter (notOut (topTo T j)) := ih2.kin.mem Cnt.swoA (by simp)
    obtain ⟨hzT, hzo⟩ := List.mem_filter.1 hzm
    obtain ⟨T1, T2, hT⟩ := List.append_of_mem hzT
    have hnn : ∀ x, x ∈ T1 ∨ x ∈ T2 → x.key ≠ z.key := by
      intro x hx e
      unfold keysA at hn
      rw [hT, List.map_append, List.map_cons] at hn
      have h3 := List.nodup_append.1 hn
      rcases hx with hx | hx
      · exact h3.2.2 x.key (List.mem_map.2 ⟨x, hx, rfl⟩) z.key (by simp) e
      · exact (List.nodup_cons.1 h3.2.1).1 (List.mem_map.2 ⟨x, hx, e⟩)
    have hF : T.filter (notOut (topTo T j)) = T1.filter (notOut (topTo T j)) ++ z :: T2.filter (notOut (topTo T j)) := by
      generalize notOut (topTo T j) = f at hzo
      rw [hT, List.filter_append, List.filter_cons_of_pos hzo]
    have hzA : z ∉ T1.filter (notOut (topTo T j)) := fun hm => hnn z (.inl (List.mem_filter.1 hm).1) rfl
    rw [hF] at ih2
    have hp := pick_first Cnt.swoA ih2 hzA
    have hr := pick_rest Cnt.swoA ih2 hzA
    have hzc : (topTo T j).contains z.key = false := by unfold notOut at hzo; simpa using hzo
    have hb := best_at hT hzc (fun a ha ho => by
      have := hp.1 a (List.mem_filter.2 ⟨ha, ho⟩)
      unfold Cnt.aheadA at this
      simpa using this) (fun b hb ho => by
      have := hp.2 b (List.mem_filter.2 ⟨hb, ho⟩)
      unfold Cnt.aheadA at this
      simpa using this)
    have ez : ael T T1.length = z := by
      rw [show ael T T1.length = T[T1.length]'(by rw [hT]; simp) from rel_lt aD (by rw [hT]; simp)]
      subst hT
      simp
    have et : topTo T (j + 1) = topTo T j ++ [z.key] := by
      show topTo T j ++ [(ael T (bestTo T (topTo T j) T.length).toNat).key] = _
      rw [hb, Int.toNat_natCast, ez]
    refine ⟨?_, ?_⟩
    · rw [et, ih1, List.take_succ_eq_append_getElem (by omega), List.map_append, hzz]
      rfl
    · have hG : T.filter (notOut (topTo T (j + 1))) = T1.filter (notOut (topTo T j)) ++ T2.filter (notOut (topTo T j)) := by
        have g : ∀ (l : List Ag), (∀ x, x ∈ l → x.key ≠ z.key) → l.filter (notOut (topTo T (j + 1))) = l.filter (notOut (topTo T j)) := fun l hl => List.filter_congr fun x hx => by
          have := hl x hx
          unfold notOut
          rw [et]
          simp [this]
        have gz : notOut (topTo T (j + 1)) z = false := by unfold notOut; rw [et]; simp
        have g1 := g T1 (fun x hx => hnn x (.inl hx))
        have g2 := g T2 (fun x hx => hnn x (.inr hx))
        rw [← g1, ← g2]
        generalize notOut (topTo T (j + 1)) = f at gz
        rw [hT, List.filter_append, List.filter_cons_of_neg (by simp [gz])]
      rw [hG]
      exact hr
theorem kt_len (l : List Ag) : (ktL l).length ≤ l.length := ktL_len l
/-- What the program tells: the keys of the first of those that are sorted. -/
theorem top_any {l Z : List Ag} {n : Int} (h0 : ¬ n < 0) (h : StS Cnt.aheadA Z (ktL l)) : topZ l n = (Z.take (min n.toNat Z.length)).map (fun S => S.key) := by
  have hl : Z.length = (ktL l).length := h.kin.len
  cases ha : l.all aggOk with
  | true =>
    rw [topZ_yes h0 ha, ← hl]
    exact (top_sorted (kt_nodup l) h _ (Nat.min_le_right _ _)).1
  | false =>
    rw [topZ_no2 ha]
    have : ktL l = [] := ktL_no ha
    rw [this] at hl
    have hz : Z = [] := List.length_eq_zero_iff.1 hl
    subst hz
    simp
theorem topZ_len (l : List Ag) (n : Int) : (topZ l n).length ≤ l.length := by
  unfold topZ
  split
  · rw [topTo_len]
    exact Nat.le_trans (Nat.min_le_right _ _) (ktL_len l)
  · simp
end Go.Proofs.Ytchbmnpajnlijaa
