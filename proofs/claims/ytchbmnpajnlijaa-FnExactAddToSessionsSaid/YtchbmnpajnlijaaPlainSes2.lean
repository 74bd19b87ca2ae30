/- Plain: chapter 11, an event put into a list of sessions. No program. -/
import Derived.Test.YtchbmnpajnlijaaPlainSess
import Derived.Test.YtchbmnpajnlijaaWin2
namespace Go.Proofs.Ytchbmnpajnlijaa
open Go.RowKit

def joinZ (A B : Ss) : Ss := ⟨A.ky, if B.fr < A.fr then B.fr else A.fr, if A.tt < B.tt then B.tt else A.tt, capS (A.ct + B.ct), capS (A.sm + B.sm)⟩
theorem sesOk_mk {S : Ss} (h0 : 0 ≤ S.ky ∧ S.ky ≤ 65535) (h1 : 0 ≤ S.tt ∧ S.tt ≤ 1000000) (h2 : 0 ≤ S.fr ∧ S.fr ≤ S.tt) (h3 : 1 ≤ S.ct ∧ S.ct ≤ 1000000000) (h4 : -1000000000 ≤ S.sm ∧ S.sm ≤ 1000000000) : sesOk S = true := by
  simp [sesOk, inB, h0, h1, h2, h3, h4]
theorem join_ok {A B : Ss} (hA : sesOk A = true) (hB : sesOk B = true) : sesOk (joinZ A B) = true := by
  have a := sesOk_bd hA
  have b := sesOk_bd hB
  unfold joinZ capS
  refine sesOk_mk ?_ ?_ ?_ ?_ ?_
  all_goals
    dsimp only
    repeat' split
    all_goals omega
def evZ (ky t v : Int) : Ss := ⟨ky, t, t, 1, v⟩
theorem ev_ok {ky t v : Int} (h0 : 0 ≤ ky ∧ ky ≤ 65535) (h1 : 0 ≤ t ∧ t ≤ 1000000) (h2 : -1000000 ≤ v ∧ v ≤ 1000000) : sesOk (evZ ky t v) = true :=
  sesOk_mk h0 h1 ⟨h1.1, Int.le_refl _⟩ ⟨Int.le_refl _, by show (1 : Int) ≤ 1000000000; decide⟩ ⟨by show -1000000000 ≤ v; omega, by show v ≤ 1000000000; omega⟩
/-- A session of that key that has the time, or is at most gap away from it. -/
def nearZ (ky t gap : Int) (S : Ss) : Bool := decide (S.ky = ky ∧ S.fr - gap ≤ t ∧ t ≤ S.tt + gap)
def oneZ (ky t v gap : Int) (l : List Ss) (k : Nat) : Ss := ((l.take k).filter (nearZ ky t gap)).foldl (fun o S => joinZ S o) (evZ ky t v)
def leftZ (ky t gap : Int) (l : List Ss) (k : Nat) : List Ss := (l.take k).filter (fun S => !nearZ ky t gap S)
section
variable {ky t v gap : Int} {l : List Ss} {k : Nat}
theorem one_near (hk : k < l.length) (h : nearZ ky t gap (zel l k) = true) : oneZ ky t v gap l (k + 1) = joinZ (zel l k) (oneZ ky t v gap l k) := by
  unfold oneZ
  rw [zel_take hk, List.filter_append]
  simp [h]
theorem one_far (hk : k < l.length) (h : nearZ ky t gap (zel l k) = false) : oneZ ky t v gap l (k + 1) = oneZ ky t v gap l k := by
  unfold oneZ
  rw [zel_take hk, List.filter_append]
  simp [h]
theorem left_near (hk : k < l.length) (h : nearZ ky t gap (zel l k) = true) : leftZ ky t gap l (k + 1) = leftZ ky t gap l k := by
  unfold leftZ
  rw [zel_take hk, List.filter_append]
  simp [h]
theorem left_far (hk : k < l.length) (h : nearZ ky t gap (zel l k) = false) : leftZ ky t gap l (k + 1) = leftZ ky t gap l k ++ [zel l k] := by
  unfold leftZ
  rw [zel_take hk, List.filter_append]
  simp [h]
theorem left_le (hk : k ≤ l.length) : (leftZ ky t gap l k).length ≤ k := by
  unfold leftZ
  refine Nat.le_trans (List.length_filter_le _ _) ?_
  rw [List.length_take]; omega
theorem one_ky : ∀ k, k ≤ l.length → (oneZ ky t v gap l k).ky = ky
  | 0, _ => rfl
  | k + 1, hk => by
    cases h : nearZ ky t gap (zel l k) with
    | true =>
      rw [one_near (by omega) h]
      unfold nearZ at h
      exact (of_decide_eq_true h).1
    | false => rw [one_far (by omega) h]; exact one_ky k (by omega)
theorem one_ok (ho : ∀ i, i < l.length → sesOk (zel l i) = true) (he : sesOk (evZ ky t v) = true) : ∀ k, k ≤ l.length → sesOk (oneZ ky t v gap l k) = true
  | 0, _ => he
  | k + 1, hk => by
    cases h : nearZ ky t gap (zel l k) with
    | true => rw [one_near (by omega) h]; exact join_ok (ho k (by omega)) (one_ok ho he k (by omega))
    | false => rw [one_far (by omega) h]; exact one_ok ho he k (by omega)
end
def lessZ (A B : Ss) : Bool := decide (A.ky < B.ky ∨ A.ky = B.ky ∧ A.fr < B.fr)
def insZ : List Ss → Ss → List Ss
  | [], a => [a]
  | x :: l, a => if lessZ a x = true then a :: x :: l else x :: insZ l a
theorem ins_len (a : Ss) : ∀ l, (insZ l a).length = l.length + 1
  | [] => rfl
  | x :: l => by
    unfold insZ
    split
    · rfl
    · simp [ins_len a l]
theorem mem_ins {a x : Ss} : ∀ {l : List Ss}, x ∈ insZ l a → x = a ∨ x ∈ l
  | [], h => .inl (List.mem_singleton.1 h)
  | y :: l, h => by
    unfold insZ at h
    split at h
    · rcases List.mem_cons.1 h with h | h
      · exact .inl h
      · exact .inr h
    · rcases List.mem_cons.1 h with h | h
      · exact .inr (by simp [h])
      · rcases mem_ins h with h | h
        · exact .inl h
        · exact .inr (by simp [h])
def InsAt (l : List Ss) (S : Ss) (k : Nat) (b : Bool) (A : List Ss) : Prop := (b = false ∧ A = l.take k ∧ insZ l S = l.take k ++ insZ (l.drop k) S) ∨ (b = true ∧ A ++ l.drop k = insZ l S)
section
variable {l A : List Ss} {S x : Ss} {k : Nat}
theorem InsAt.start : InsAt l S 0 false [] := .inl ⟨rfl, by simp, by simp⟩
theorem InsAt.after (h : InsAt l S k true A) (hk : k < l.length) : InsAt l S (k + 1) true (A ++ [zel l k]) := by
  rcases h with ⟨h, _⟩ | ⟨_, h⟩
  · cases h
  · refine .inr ⟨rfl, ?_⟩
    rw [← h, show l.drop k = zel l k :: l.drop (k + 1) from rel_drop zD hk]
    simp
theorem InsAt.ahead (h : InsAt l S k false A) (hk : k < l.length) (ha : lessZ S (zel l k) = true) : InsAt l S (k + 1) true (A ++ [S] ++ [zel l k]) := by
  rcases h with ⟨_, hA, h⟩ | ⟨h, _⟩
  · refine .inr ⟨rfl, ?_⟩
    rw [h, hA, show l.drop k = zel l k :: l.drop (k + 1) from rel_drop zD hk]
    show _ = _ ++ insZ (zel l k :: l.drop (k + 1)) S
    unfold insZ
    rw [if_pos ha]
    simp
  · cases h
theorem InsAt.past (h : InsAt l S k false A) (hk : k < l.length) (ha : lessZ S (zel l k) = false) : InsAt l S (k + 1) false (A ++ [zel l k]) := by
  rcases h with ⟨_, hA, h⟩ | ⟨h, _⟩
  · have e : l.take (k + 1) = l.take k ++ [zel l k] := zel_take hk
    refine .inl ⟨rfl, by rw [e, hA], ?_⟩
    rw [h, show l.drop k = zel l k :: l.drop (k + 1) from rel_drop zD hk, e]
    show _ ++ insZ (zel l k :: l.drop (k + 1)) S = _
    conv => lhs; unfold insZ
    rw [if_neg (by simp [ha])]
    simp
  · cases h
theorem InsAt.len {b : Bool} (h : InsAt l S k b A) (hk : k ≤ l.length) : A.length ≤ k + 1 := by
  rcases h with ⟨_, hA, _⟩ | ⟨_, h⟩
  · rw [hA, List.length_take]; omega
  · have e := congrArg List.length h
    rw [ins_len, List.length_append, List.length_drop] at e
    omega
theorem InsAt.end_yes (h : InsAt l S l.length true A) : A = insZ l S := by
  rcases h with ⟨h, _⟩ | ⟨_, h⟩
  · cases h
  · simpa using h
theorem InsAt.end_no (h : InsAt l S l.length false A) : A ++ [S] = insZ l S := by
  rcases h with ⟨_, hA, h⟩ | ⟨h, _⟩
  · rw [h, hA]; simp [insZ]
  · cases h
end
/-- The list with one event more. -/
def addZ (ky t v gap : Int) (l : List Ss) : List Ss := insZ (leftZ ky t gap l l.length) (oneZ ky t v gap l l.length)
theorem addZ_len (ky t v gap : Int) (l : List Ss) : (addZ ky t v gap l).length ≤ l.length + 1 := by
  unfold addZ
  rw [ins_len]
  have := left_le (ky := ky) (t := t) (gap := gap) (Nat.le_refl l.length)
  omega
theorem addZ_ok {ky t v gap : Int} {l : List Ss} (ho : ∀ i, i < l.length → sesOk (zel l i) = true) (he : sesOk (evZ ky t v) = true) : ∀ i, i < (addZ ky t v gap l).length → sesOk (zel (addZ ky t v gap l) i) = true := fun i hi => by
  rw [show zel (addZ ky t v gap l) i = (addZ ky t v gap l)[i] from rel_lt zD hi]
  rcases mem_ins (List.getElem_mem hi) with h | h
  · rw [h]; exact one_ok ho he _ (Nat.le_refl _)
  · unfold leftZ at h
    have h1 := (List.mem_filter.1 h).1
    rw [List.take_of_length_le (Nat.le_refl _)] at h1
    obtain ⟨j, hj, he2⟩ := List.getElem_of_mem h1
    rw [← he2]
    have := ho j hj
    rwa [show zel l j = l[j] from rel_lt zD hj] at this
end Go.Proofs.Ytchbmnpajnlijaa
