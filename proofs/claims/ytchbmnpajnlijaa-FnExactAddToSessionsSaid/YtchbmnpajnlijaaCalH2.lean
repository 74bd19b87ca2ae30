/- Chapter 11: a new node laid in among others. No program's text. -/
import Derived.Test.YtchbmnpajnlijaaCal2
namespace Go.Proofs.Ytchbmnpajnlijaa
open Go.RowKit
theorem cset {W : World} {p : Addr} {v u : Value} {wb i : Nat} (h : W.cell? p = some v) (hne : p.block ≠ wb) : (W.setCell ⟨wb, i, none⟩ u).cell? p = some v := by
  rw [World.cell?_setCell_other _ _ _ _ (fun e => hne (by rw [← e]))]
  exact h
theorem placeA_mem {sb i : Nat} {bs : List Nat} (hi : i ≤ bs.length) : (placeA sb bs i).block ∈ sb :: bs := by
  cases i with
  | zero => simp [placeA]
  | succ i => exact List.mem_cons_of_mem _ (nel_mem (by omega))
section
variable {T U : TypeId} {W : World} {tl : Value} {sb wb : Nat} {bs : List Nat}
theorem Seg.placeF {ss : List Ss} {i : Nat} (h : Seg T W tl bs ss) (hs : Blk W sb U #[headV tl bs]) (hi : i ≤ ss.length) : W.frozen? (placeA sb bs i) = false := by
  cases i with
  | zero => exact hs.frozen 0
  | succ i => exact (h.at_ i (by omega)).frozen 5
theorem nel_take {n k : Nat} (h : n < k) : nel (bs.take k) n = nel bs n := by simp [nel, List.getD, List.getElem?_take_of_lt h]
/-- A new node, led to from where the list was cut; it leads to what is left. -/
theorem chain_fin {A R Q : List Ss} {F : Ss} {bQ : List Nat} (hs : Seg T W tl bs (A ++ R)) (hsb : Blk W sb U #[headV tl bs]) (hnd : (sb :: bs).Nodup) (hw : wb ∉ sb :: bs) (hq : Seg T W tl bQ Q) (hsub : ∀ b, b ∈ bQ → b ∈ bs.drop A.length) (hb : Blk W wb T (nodeC F (headV tl bQ))) :
    Blk (W.setCell (placeA sb bs A.length) (.pointer (some ⟨wb, 0, none⟩))) sb U #[headV tl (bs.take A.length ++ wb :: bQ)] ∧ Seg T (W.setCell (placeA sb bs A.length) (.pointer (some ⟨wb, 0, none⟩))) tl (bs.take A.length ++ wb :: bQ) (A ++ F :: Q) := by
  have hL := hs.len
  rw [List.length_append] at hL
  have hc := List.nodup_cons.1 hnd
  obtain ⟨sA, sR⟩ := hs.split
  have hwn : wb ≠ sb ∧ wb ∉ bs := by simpa using hw
  have hne : ∀ b, b ∈ bQ → b ≠ (placeA sb bs A.length).block := fun b hbQ e => by
    have h1 := hsub b hbQ
    cases hA : A.length with
    | zero => rw [hA] at e; have : b = sb := e; rw [this] at h1; exact hc.1 (List.mem_of_mem_drop h1)
    | succ n =>
      rw [hA] at e h1
      have e2 : b = nel bs n := e
      have hn : n < bs.length := by omega
      have h3 : bs[n] ∈ bs.drop (n + 1) := by rw [← show nel bs n = bs[n] by simp [nel, List.getD, hn], ← e2]; exact h1
      have h4 := hc.2
      rw [← List.take_append_drop (n + 1) bs] at h4
      exact (List.nodup_append.1 h4).2.2 bs[n] (List.mem_take_iff_getElem.2 ⟨n, by omega, rfl⟩) bs[n] h3 rfl
  have hpw : wb ≠ (placeA sb bs A.length).block := fun e => hw (by rw [e]; exact placeA_mem (by omega))
  have hseg : Seg T (W.setCell (placeA sb bs A.length) (.pointer (some ⟨wb, 0, none⟩))) tl (wb :: bQ) (F :: Q) := ⟨hb.far_ (p := placeA sb bs A.length) hpw _, hq.kept fun b hbQ => Below.heap_setCell W (placeA sb bs A.length) _ b (hne b hbQ)⟩
  cases hA : A.length with
  | zero =>
    have hA0 : A = [] := List.length_eq_zero_iff.1 hA
    subst hA0
    refine ⟨?_, ?_⟩
    · have := hsb.put_ 0 (.pointer (some ⟨wb, 0, none⟩))
      simpa [headV, placeA] using this
    · simpa using hseg
  | succ n =>
    rw [hA] at hseg sA hL
    have hlt : (bs.take (n + 1)).length = n + 1 := by rw [List.length_take]; omega
    have hnt : (bs.take (n + 1)).Nodup := List.Nodup.sublist (List.take_sublist _ _) hc.2
    have ht := Seg.turn (v := .pointer (some ⟨wb, 0, none⟩)) sA hnt n hlt
    rw [nel_take (by omega)] at ht
    refine ⟨?_, ?_⟩
    · have e1 : sb ≠ nel bs n := fun e => hc.1 (by rw [e]; exact nel_mem (by omega))
      have := hsb.far_ (p := ⟨nel bs n, 5, none⟩) e1 (.pointer (some ⟨wb, 0, none⟩))
      have e2 : headV tl bs = headV tl (bs.take (n + 1) ++ wb :: bQ) := by
        cases bs with
        | nil => (simp only [List.length_nil] at hL; omega)
        | cons b bs => rfl
      rw [e2] at this
      exact this
    · exact Seg.join (b2 := wb :: bQ) ht hseg
end
end Go.Proofs.Ytchbmnpajnlijaa
