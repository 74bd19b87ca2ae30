/- Plain: chapter 11, a session put into sessions that lie apart: those that it joins are one with it. No program. -/
import Derived.Test.YtchbmnpajnlijaaPlainSes4
namespace Go.Proofs.Ytchbmnpajnlijaa
open Go.RowKit
/-- Ahead of the other, and so far from it that they do not join. -/
def ahS (gap : Int) (A B : Ss) : Bool := decide (A.ky < B.ky ∨ A.ky = B.ky ∧ A.tt + gap < B.fr)
def Sep (gap : Int) (l : List Ss) : Prop := l.Pairwise fun A B => ahS gap A B = true
def okL (l : List Ss) : Prop := ∀ x, x ∈ l → sesOk x = true
theorem okL_oks {l : List Ss} (h : okL l) : oks l := fun i hi => by
  rw [show zel l i = l[i] from rel_lt zD hi]
  exact h _ (List.getElem_mem hi)
theorem oks_okL {l : List Ss} (h : oks l) : okL l := fun x hx => by
  obtain ⟨i, hi, rfl⟩ := List.getElem_of_mem hx
  have := h i hi
  rwa [show zel l i = l[i] from rel_lt zD hi] at this
/-- (*Session).merge. -/
def mrg (s t : Ss) : Ss := ⟨s.ky, if t.fr < s.fr then t.fr else s.fr, if s.tt < t.tt then t.tt else s.tt, capS (s.ct + t.ct), capS (s.sm + t.sm)⟩
structure Ins (gap : Int) (e : Ss) (l l' : List Ss) (A M Q : List Ss) : Prop where
  eq : l = A ++ M ++ Q
  out : l' = A ++ M.foldl mrg e :: Q
  pre : ∀ x, x ∈ A → ahS gap x e = true
  mid1 : ∀ x, x ∈ M → ahS gap x e = false
  mid2 : ∀ x, x ∈ M → ahS gap e x = false
  post : ∀ x, x ∈ Q → ahS gap e x = true
section
variable {gap : Int} {e a b c : Ss} {l l' A M Q : List Ss}
theorem ahS_iff : ahS gap a b = true ↔ a.ky < b.ky ∨ a.ky = b.ky ∧ a.tt + gap < b.fr := by unfold ahS; exact decide_eq_true_iff
theorem ahS_not : ahS gap a b = false ↔ ¬ (a.ky < b.ky ∨ a.ky = b.ky ∧ a.tt + gap < b.fr) := by unfold ahS; exact decide_eq_false_iff_not
theorem ahS_trans (hg : 0 ≤ gap) (hb : sesOk b = true) (h1 : ahS gap a b = true) (h2 : ahS gap b c = true) : ahS gap a c = true := by
  have := sesOk_bd hb
  rw [ahS_iff] at *
  omega
theorem near_key (h1 : ahS gap a e = false) (h2 : ahS gap e a = false) : a.ky = e.ky ∧ e.fr ≤ a.tt + gap ∧ a.fr ≤ e.tt + gap := by
  rw [ahS_not] at *
  omega
theorem ins_some (hg : 0 ≤ gap) (he : sesOk e = true) : ∀ {l : List Ss}, okL l → Sep gap l → ∃ l' A M Q, Ins gap e l l' A M Q
  | [], _, _ => ⟨[e], [], [], [], rfl, rfl, fun x h => (by cases h), fun x h => (by cases h), fun x h => (by cases h), fun x h => (by cases h)⟩
  | x :: r, ho, hs => by
    have hc := List.pairwise_cons.1 hs
    have hx := ho x (by simp)
    obtain ⟨l', A, M, Q, h⟩ := ins_some hg he (l := r) (fun y hy => ho y (by simp [hy])) hc.2
    have hm : ∀ y, y ∈ A ++ M ++ Q → ahS gap x y = true ∧ sesOk y = true := fun y hy => by
      rw [← h.eq] at hy
      exact ⟨hc.1 y hy, ho y (by simp [hy])⟩
    cases h1 : ahS gap x e with
    | true => exact ⟨_, x :: A, M, Q, by rw [h.eq]; simp, rfl, fun y hy => by
        rcases List.mem_cons.1 hy with rfl | hy
        · exact h1
        · exact h.pre y hy, h.mid1, h.mid2, h.post⟩
    | false =>
      have hA : A = [] := by
        cases A with
        | nil => rfl
        | cons y A =>
          exfalso
          obtain ⟨k1, k2⟩ := hm y (by simp)
          have := ahS_trans hg k2 k1 (h.pre y (by simp))
          rw [h1] at this
          cases this
      subst hA
      cases h2 : ahS gap e x with
      | false => exact ⟨_, [], x :: M, Q, by rw [h.eq]; simp, rfl, fun y hy => (by cases hy), fun y hy => by
          rcases List.mem_cons.1 hy with rfl | hy
          · exact h1
          · exact h.mid1 y hy, fun y hy => by
          rcases List.mem_cons.1 hy with rfl | hy
          · exact h2
          · exact h.mid2 y hy, h.post⟩
      | true =>
        have hM : M = [] := by
          cases M with
          | nil => rfl
          | cons y M =>
            exfalso
            obtain ⟨k1, k2⟩ := hm y (by simp)
            have := ahS_trans hg hx h2 k1
            rw [h.mid2 y (by simp)] at this
            cases this
        subst hM
        exact ⟨_, [], [], x :: Q, by rw [h.eq]; simp, rfl, fun y hy => (by cases hy), fun y hy => (by cases hy), fun y hy => (by cases hy), fun y hy => by
          rcases List.mem_cons.1 hy with rfl | hy
          · exact h2
          · exact h.post y hy⟩
theorem mrg_ok (h1 : sesOk a = true) (h2 : sesOk b = true) : sesOk (mrg a b) = true := by
  have x := sesOk_bd h1
  have y := sesOk_bd h2
  unfold mrg capS
  refine sesOk_mk ?_ ?_ ?_ ?_ ?_
  all_goals
    dsimp only
    repeat' split
    all_goals omega
/-- What comes of a session and those that join it. -/
theorem fold_mrg : ∀ (M : List Ss) (e : Ss), sesOk e = true → okL M → sesOk (M.foldl mrg e) = true ∧ (M.foldl mrg e).ky = e.ky ∧ (M.foldl mrg e).fr ≤ e.fr ∧ e.tt ≤ (M.foldl mrg e).tt ∧ (∀ z : Int, z < e.fr → (∀ m, m ∈ M → z < m.fr) → z < (M.foldl mrg e).fr) ∧ (∀ z : Int, e.tt < z → (∀ m, m ∈ M → m.tt < z) → (M.foldl mrg e).tt < z)
  | [], e, h, _ => ⟨h, rfl, Int.le_refl _, Int.le_refl _, fun z hz _ => hz, fun z hz _ => hz⟩
  | m :: M, e, h, ho => by
    have hm := ho m (by simp)
    obtain ⟨q1, q2, q3, q4, q5, q6⟩ := fold_mrg M (mrg e m) (mrg_ok h hm) (fun y hy => ho y (by simp [hy]))
    have f1 : (mrg e m).fr = if m.fr < e.fr then m.fr else e.fr := rfl
    have f2 : (mrg e m).tt = if e.tt < m.tt then m.tt else e.tt := rfl
    rw [f1] at q3
    rw [f2] at q4
    refine ⟨q1, q2, ?_, ?_, fun z hz hh => q5 z ?_ (fun y hy => hh y (by simp [hy])), fun z hz hh => q6 z ?_ (fun y hy => hh y (by simp [hy]))⟩
    · show (M.foldl mrg (mrg e m)).fr ≤ e.fr
      split at q3 <;> omega
    · show e.tt ≤ (M.foldl mrg (mrg e m)).tt
      split at q4 <;> omega
    · have := hh m (by simp)
      rw [f1]
      split <;> omega
    · have := hh m (by simp)
      rw [f2]
      split <;> omega
theorem Ins.sep (he : sesOk e = true) (ho : okL l) (hs : Sep gap l) (h : Ins gap e l l' A M Q) : Sep gap l' ∧ okL l' := by
  have hoM : okL M := fun x hx => ho x (by rw [h.eq]; simp [hx])
  obtain ⟨q1, q2, q3, q4, q5, q6⟩ := fold_mrg M e he hoM
  unfold Sep at hs
  rw [h.eq, List.append_assoc] at hs
  obtain ⟨sA, sMQ, sX⟩ := List.pairwise_append.1 hs
  obtain ⟨sM, sQ, sY⟩ := List.pairwise_append.1 sMQ
  generalize hW : M.foldl mrg e = W at q1 q2 q3 q4 q5 q6
  have hout := h.out
  rw [hW] at hout
  have aW : ∀ x, x ∈ A → ahS gap x W = true := fun x hx => by
    have k1 := ahS_iff.1 (h.pre x hx)
    rw [ahS_iff, q2]
    rcases k1 with k1 | k1
    · exact .inl k1
    · refine .inr ⟨k1.1, q5 _ k1.2 fun m hm => ?_⟩
      have k2 := ahS_iff.1 (sX x hx m (by simp [hm]))
      have k3 := near_key (h.mid1 m hm) (h.mid2 m hm)
      omega
  have Wq : ∀ x, x ∈ Q → ahS gap W x = true := fun x hx => by
    have k1 := ahS_iff.1 (h.post x hx)
    rw [ahS_iff, q2]
    rcases k1 with k1 | k1
    · exact .inl k1
    · refine .inr ⟨k1.1, ?_⟩
      have := q6 (x.fr - gap) (by omega) fun m hm => by
        have k2 := ahS_iff.1 (sY m hm x hx)
        have k3 := near_key (h.mid1 m hm) (h.mid2 m hm)
        omega
      omega
  refine ⟨?_, ?_⟩
  · rw [hout]
    refine List.pairwise_append.2 ⟨sA, List.pairwise_cons.2 ⟨Wq, sQ⟩, fun x hx y hy => ?_⟩
    rcases List.mem_cons.1 hy with rfl | hy
    · exact aW x hx
    · exact sX x hx y (by simp [hy])
  · intro x hx
    rw [hout] at hx
    rcases List.mem_append.1 hx with hx | hx
    · exact ho x (by rw [h.eq]; simp [hx])
    · rcases List.mem_cons.1 hx with rfl | hx
      · exact q1
      · exact ho x (by rw [h.eq]; simp [hx])
theorem insZ_at {o : Ss} : ∀ {A Q : List Ss}, (∀ x, x ∈ A → lessZ o x = false) → (∀ x, x ∈ Q → lessZ o x = true) → insZ (A ++ Q) o = A ++ o :: Q
  | [], [], _, _ => rfl
  | [], x :: Q, _, h => by
    show insZ (x :: Q) o = o :: x :: Q
    unfold insZ
    rw [if_pos (h x (by simp))]
  | x :: A, Q, h, h2 => by
    show insZ (x :: (A ++ Q)) o = x :: (A ++ o :: Q)
    unfold insZ
    rw [if_neg (by rw [h x (by simp)]; simp), insZ_at (fun y hy => h y (by simp [hy])) h2]
theorem near_fold : ∀ (M : List Ss) (o : Ss), (∀ m, m ∈ M → m.ky = o.ky) → M.foldl (fun o S => joinZ S o) o = M.foldl mrg o
  | [], _, _ => rfl
  | m :: M, o, h => by
    have hm := h m (by simp)
    have e : joinZ m o = mrg o m := by
      unfold joinZ mrg
      rw [hm, Int.add_comm m.ct, Int.add_comm m.sm]
      congr 1
      · split <;> split <;> omega
      · split <;> split <;> omega
    rw [List.foldl_cons, List.foldl_cons, e]
    exact near_fold M (mrg o m) (fun y hy => h y (by simp [hy]))
/-- An event added: the model's list. -/
theorem Ins.addZ {ky t v : Int} (hg : 0 ≤ gap) (he : sesOk (evZ ky t v) = true) (ho : okL l) (hs : Sep gap l) (h : Ins gap (evZ ky t v) l l' A M Q) : addZ ky t v gap l = l' := by
  have hoM : okL M := fun x hx => ho x (by rw [h.eq]; simp [hx])
  obtain ⟨q1, q2, q3, q4, q5, q6⟩ := fold_mrg M _ he hoM
  have hk : ∀ m, m ∈ M → m.ky = ky := fun m hm => (near_key (h.mid1 m hm) (h.mid2 m hm)).1
  have nA : ∀ x, x ∈ A → nearZ ky t gap x = false := fun x hx => by
    have k := ahS_iff.1 (h.pre x hx)
    have e1 : (evZ ky t v).ky = ky := rfl
    have e2 : (evZ ky t v).fr = t := rfl
    rw [e1, e2] at k
    unfold nearZ
    exact decide_eq_false (by omega)
  have nQ : ∀ x, x ∈ Q → nearZ ky t gap x = false := fun x hx => by
    have k := ahS_iff.1 (h.post x hx)
    have e1 : (evZ ky t v).ky = ky := rfl
    have e2 : (evZ ky t v).tt = t := rfl
    rw [e1, e2] at k
    unfold nearZ
    exact decide_eq_false (by omega)
  have nM : ∀ x, x ∈ M → nearZ ky t gap x = true := fun x hx => by
    have k := near_key (h.mid1 x hx) (h.mid2 x hx)
    have e1 : (evZ ky t v).ky = ky := rfl
    have e2 : (evZ ky t v).tt = t := rfl
    have e3 : (evZ ky t v).fr = t := rfl
    rw [e1, e2, e3] at k
    unfold nearZ
    exact decide_eq_true (by omega)
  have fA : A.filter (nearZ ky t gap) = [] := List.filter_eq_nil_iff.2 (fun x hx => by rw [nA x hx]; simp)
  have fQ : Q.filter (nearZ ky t gap) = [] := List.filter_eq_nil_iff.2 (fun x hx => by rw [nQ x hx]; simp)
  have fM : M.filter (nearZ ky t gap) = M := List.filter_eq_self.2 (fun x hx => nM x hx)
  have gA : A.filter (fun S => !nearZ ky t gap S) = A := List.filter_eq_self.2 (fun x hx => by rw [nA x hx]; rfl)
  have gQ : Q.filter (fun S => !nearZ ky t gap S) = Q := List.filter_eq_self.2 (fun x hx => by rw [nQ x hx]; rfl)
  have gM : M.filter (fun S => !nearZ ky t gap S) = [] := List.filter_eq_nil_iff.2 (fun x hx => by rw [nM x hx]; simp)
  have hone : oneZ ky t v gap l l.length = M.foldl mrg (evZ ky t v) := by
    unfold oneZ
    rw [List.take_length, h.eq, List.filter_append, List.filter_append, fA, fQ, fM]
    simp only [List.nil_append, List.append_nil]
    exact near_fold M _ hk
  have hleft : leftZ ky t gap l l.length = A ++ Q := by
    unfold leftZ
    rw [List.take_length, h.eq, List.filter_append, List.filter_append, gA, gQ, gM]
    simp
  unfold Go.Proofs.Ytchbmnpajnlijaa.addZ
  rw [hone, hleft, h.out]
  unfold Sep at hs
  rw [h.eq, List.append_assoc] at hs
  obtain ⟨sA, sMQ, sX⟩ := List.pairwise_append.1 hs
  refine insZ_at (fun x hx => ?_) (fun x hx => ?_)
  · have k := ahS_iff.1 (h.pre x hx)
    have ox := sesOk_bd (ho x (by rw [h.eq]; simp [hx]))
    unfold lessZ
    rw [decide_eq_false_iff_not, q2]
    rintro (k2 | k2)
    · omega
    · have := q5 x.fr (by omega) fun m hm => by
        have k4 := ahS_iff.1 (sX x hx m (by simp [hm]))
        have := hk m hm
        have e1 : (evZ ky t v).ky = ky := rfl
        omega
      omega
  · have k := ahS_iff.1 (h.post x hx)
    unfold lessZ
    rw [decide_eq_true_eq, q2]
    have e1 : (evZ ky t v).tt = t := rfl
    have e2 : (evZ ky t v).fr = t := rfl
    rw [e1] at k
    rw [e2] at q3
    omega
/-- Behind all. -/
theorem ins_behind (h : ∀ x, x ∈ l → ahS gap x e = true) : Ins gap e l (l ++ [e]) l [] [] := ⟨by simp, rfl, h, fun x h => (by cases h), fun x h => (by cases h), fun x h => (by cases h)⟩
/-- Among others of smaller and of greater keys. -/
theorem Ins.among {B C : List Ss} (h : Ins gap e l l' A M Q) (hB : ∀ x, x ∈ B → x.ky < e.ky) (hC : ∀ x, x ∈ C → e.ky < x.ky) : Ins gap e (B ++ l ++ C) (B ++ l' ++ C) (B ++ A) M (Q ++ C) := by
  refine ⟨by rw [h.eq]; simp, by rw [h.out]; simp, fun x hx => ?_, h.mid1, h.mid2, fun x hx => ?_⟩
  · rcases List.mem_append.1 hx with hx | hx
    · exact ahS_iff.2 (.inl (hB x hx))
    · exact h.pre x hx
  · rcases List.mem_append.1 hx with hx | hx
    · exact h.post x hx
    · exact ahS_iff.2 (.inl (hC x hx))
end
end Go.Proofs.Ytchbmnpajnlijaa
