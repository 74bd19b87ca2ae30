/- Chapter 11: a session put into a calendar, on its lists. -/
import Derived.Test.YtchbmnpajnlijaaCalM
namespace Go.Proofs.Ytchbmnpajnlijaa
open Go.RowKit Go.Maps
theorem flatE_mid (E1 E2 : List Ent) (e : Ent) : flatE (E1 ++ e :: E2) = flatE E1 ++ e.ch ++ flatE E2 := by unfold flatE; simp
section
variable {lo mb : Nat} {es E1 E2 : List Ent} {W W' : World} {gap : Int} {s : Ss} {l' A M Q : List Ss}
/-- Where a key lies, or would lie. -/
theorem ent_split : ∀ {es : List Ent}, es.Pairwise (fun a b => a.key < b.key) → ∀ k : Int, (∃ E1 e E2, es = E1 ++ e :: E2 ∧ e.key = k) ∨ (∃ E1 E2, es = E1 ++ E2 ∧ (∀ e, e ∈ E1 → e.key < k) ∧ ∀ e, e ∈ E2 → k < e.key)
  | [], _, k => .inr ⟨[], [], rfl, fun e h => (by cases h), fun e h => (by cases h)⟩
  | x :: es, h, k => by
    have hc := List.pairwise_cons.1 h
    rcases Int.lt_trichotomy x.key k with hlt | heq | hgt
    · rcases ent_split hc.2 k with ⟨E1, e, E2, rfl, he⟩ | ⟨E1, E2, rfl, h1, h2⟩
      · exact .inl ⟨x :: E1, e, E2, rfl, he⟩
      · exact .inr ⟨x :: E1, E2, rfl, fun e he => by
          rcases List.mem_cons.1 he with rfl | he
          · exact hlt
          · exact h1 e he, h2⟩
    · exact .inl ⟨[], x, es, rfl, heq⟩
    · exact .inr ⟨[], x :: es, rfl, fun e h => (by cases h), fun e he => by
        rcases List.mem_cons.1 he with rfl | he
        · exact hgt
        · have := hc.1 e he; omega⟩
theorem Cal.nodup_bs {e : Ent} (h : Cal lo mb (E1 ++ e :: E2) W) : (e.sb :: e.bs).Nodup := by
  have n := (List.nodup_cons.1 h.nd).2
  unfold entsB at n
  rw [List.flatMap_append, List.flatMap_cons] at n
  exact (List.nodup_append.1 (List.nodup_append.1 n).2.1).1
theorem ch_ok {e : Ent} (ho : okL (flatE (E1 ++ e :: E2))) (hs : Sep gap (flatE (E1 ++ e :: E2))) : okL e.ch ∧ Sep gap e.ch := by
  rw [flatE_mid] at ho hs
  unfold Sep at hs
  refine ⟨fun x hx => ho x (by simp [hx]), ?_⟩
  exact (List.pairwise_append.1 (List.pairwise_append.1 hs).1).2.1
theorem cal_step {e : Ent} {wb : Nat} (h : Cal lo mb (E1 ++ e :: E2) W) (hk : e.key = s.ky) (hsk : sesOk s = true) (ho : okL (flatE (E1 ++ e :: E2))) (hI : Ins gap s e.ch l' A M Q) (hw : W.heap.size ≤ wb) (hlo : lo ≤ W.heap.size) (hon : Only (e.sb :: e.bs) W W')
    (hb : Blk W' e.sb 132 #[headV (.pointer none) (e.bs.take A.length ++ wb :: e.bs.drop (A.length + M.length))]) (hs : Seg 136 W' (.pointer none) (e.bs.take A.length ++ wb :: e.bs.drop (A.length + M.length)) (A ++ M.foldl mrg s :: Q)) :
    ∃ es', Cal lo mb es' W' ∧ es'.length = (E1 ++ e :: E2).length ∧ Ins gap s (flatE (E1 ++ e :: E2)) (flatE es') (flatE E1 ++ A) M (Q ++ flatE E2) := by
  have hent := h.ent e (by simp)
  have hch : okL e.ch := fun x hx => ho x (by rw [flatE_mid]; simp [hx])
  have hnd := (List.nodup_cons.1 h.nodup_bs).2
  have hwn : wb ∉ e.bs := fun hm => by have := hent.2.1.lt wb hm; omega
  have hky : ∀ x, x ∈ A ++ M.foldl mrg s :: Q → x.ky = e.key := fun x hx => by
    rcases List.mem_append.1 hx with hx | hx
    · exact hent.2.2.1 x (by rw [hI.eq]; simp [hx])
    · rcases List.mem_cons.1 hx with rfl | hx
      · rw [(fold_mrg M s hsk (fun x hx => hch x (by rw [hI.eq]; simp [hx]))).2.1, hk]
      · exact hent.2.2.1 x (by rw [hI.eq]; simp [hx])
  have hT := h.turn (wb := wb) hon hb hs hky hw (Nat.le_trans hlo hw) (fun b hb => by
      rcases List.mem_append.1 hb with hb | hb
      · exact .inr (List.mem_of_mem_take hb)
      · rcases List.mem_cons.1 hb with rfl | hb
        · exact .inl rfl
        · exact .inr (List.mem_of_mem_drop hb)) (by
      rw [List.perm_middle.nodup_iff, List.nodup_cons]
      refine ⟨fun hm => ?_, ?_⟩
      · rcases List.mem_append.1 hm with hm | hm
        · exact hwn (List.mem_of_mem_take hm)
        · exact hwn (List.mem_of_mem_drop hm)
      · have hsub : (e.bs.take A.length ++ e.bs.drop (A.length + M.length)).Sublist e.bs := by
          conv => rhs; rw [← List.take_append_drop A.length e.bs]
          refine List.Sublist.append (List.Sublist.refl _) ?_
          rw [← List.drop_drop]
          exact List.drop_sublist _ _
        exact hnd.sublist hsub)
  refine ⟨_, hT, by simp, ?_⟩
  rw [flatE_mid, flatE_mid]
  have hIo : A ++ M.foldl mrg s :: Q = l' := hI.out.symm
  show Ins gap s _ (flatE E1 ++ (A ++ M.foldl mrg s :: Q) ++ flatE E2) _ _ _
  rw [hIo]
  have ha := List.pairwise_append.1 h.asc
  have hc := List.pairwise_cons.1 ha.2.1
  refine hI.among (fun x hx => ?_) (fun x hx => ?_)
  · unfold flatE at hx
    obtain ⟨y, hy, hx⟩ := List.mem_flatMap.1 hx
    have := (h.ent y (by simp [hy])).2.2.1 x hx
    have := ha.2.2 y hy e (by simp)
    omega
  · unfold flatE at hx
    obtain ⟨y, hy, hx⟩ := List.mem_flatMap.1 hx
    have := (h.ent y (by simp [hy])).2.2.1 x hx
    have := hc.1 y hy
    omega
end
end Go.Proofs.Ytchbmnpajnlijaa
