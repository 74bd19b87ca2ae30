/- Plain: chapter 11, the sessions of a list of events; lists of sessions that are well. No program. -/
import Derived.Test.YtchbmnpajnlijaaPlainSes2
import Derived.Test.YtchbmnpajnlijaaPlainFrame
import Derived.Test.YtchbmnpajnlijaaFmRow
namespace Go.Proofs.Ytchbmnpajnlijaa
open Go.RowKit

/-- An event that is right. -/
def evQ (F : Fm) : Bool := fOk F.k F.y F.t F.v && decide (F.k = 1)
theorem evQ_bd {F : Fm} (h : evQ F = true) : (0 ≤ F.y ∧ F.y ≤ 65535) ∧ (0 ≤ F.t ∧ F.t ≤ 1000000) ∧ (-1000000 ≤ F.v ∧ F.v ≤ 1000000) := by
  unfold evQ at h
  simp only [Bool.and_eq_true, decide_eq_true_eq] at h
  obtain ⟨h2, h1⟩ := h
  rw [h1, fOk_event] at h2
  simp only [Bool.and_eq_true] at h2
  exact ⟨inB_bd h2.1.1, inB_bd h2.1.2, inB_bd h2.2⟩
theorem evQ_ok {F : Fm} (h : evQ F = true) : sesOk (evZ F.y F.t F.v) = true := by
  have := evQ_bd h
  exact ev_ok this.1 this.2.1 this.2.2
def oks (l : List Ss) : Prop := ∀ i, i < l.length → sesOk (zel l i) = true
theorem oks_nil : oks [] := fun i hi => by simp at hi
def sesL (gap : Int) (L : List Fm) (k : Nat) : List Ss := ((L.take k).filter evQ).foldl (fun s F => addZ F.y F.t F.v gap s) []
section
variable {gap : Int} {L : List Fm} {k : Nat}
theorem sesL_yes (hk : k < L.length) (h : evQ (qel L k) = true) : sesL gap L (k + 1) = addZ (qel L k).y (qel L k).t (qel L k).v gap (sesL gap L k) := by
  unfold sesL
  rw [qel_take hk, List.filter_append]
  simp [h]
theorem sesL_no (hk : k < L.length) (h : evQ (qel L k) = false) : sesL gap L (k + 1) = sesL gap L k := by
  unfold sesL
  rw [qel_take hk, List.filter_append]
  simp [h]
theorem sesL_ok : ∀ k, k ≤ L.length → oks (sesL gap L k)
  | 0, _ => oks_nil
  | k + 1, hk => by
    cases h : evQ (qel L k) with
    | true => rw [sesL_yes (by omega) h]; exact addZ_ok (sesL_ok k (by omega)) (evQ_ok h)
    | false => rw [sesL_no (by omega) h]; exact sesL_ok k (by omega)
theorem sesL_len : ∀ k, k ≤ L.length → (sesL gap L k).length ≤ k
  | 0, _ => Nat.le_refl _
  | k + 1, hk => by
    have := sesL_len k (by omega)
    cases h : evQ (qel L k) with
    | true =>
      rw [sesL_yes (by omega) h]
      have := addZ_len (qel L k).y (qel L k).t (qel L k).v gap (sesL gap L k)
      omega
    | false => rw [sesL_no (by omega) h]; omega
end
def sessionsZ (L : List Fm) (gap : Int) : List Ss := if inB gap 0 1000000 = true ∧ L.length ≤ 300 then sesL gap L L.length else []
theorem sessionsZ_no1 {L : List Fm} {gap : Int} (h : inB gap 0 1000000 = false) : sessionsZ L gap = [] := if_neg (fun h2 => by rw [h] at h2; cases h2.1)
theorem sessionsZ_no2 {L : List Fm} {gap : Int} (h : ¬ L.length ≤ 300) : sessionsZ L gap = [] := if_neg (fun h2 => h h2.2)
theorem sessionsZ_yes {L : List Fm} {gap : Int} (h : inB gap 0 1000000 = true) (h2 : L.length ≤ 300) : sessionsZ L gap = sesL gap L L.length := if_pos ⟨h, h2⟩
end Go.Proofs.Ytchbmnpajnlijaa
