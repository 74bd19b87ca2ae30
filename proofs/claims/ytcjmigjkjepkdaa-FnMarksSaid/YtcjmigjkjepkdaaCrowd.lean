/- A crowd: a map of sources by their places, as it reads key by key. -/
import Derived.Test.YtcjmigjkjepkdaaSrcsS
import Derived.Test.YtcjmigjkjepkdaaLagS
import Derived.Maps.Own
import Derived.Maps.OwnSet
import Derived.Maps.RangeWalk
namespace Go.Proofs.Ytcjmigjkjepkdaa
open Go.RowKit Go.Maps

/-- How a source in a map reads. -/
def srcD (S : Src) : DataW Unit := .agg [.lit (.int .i64 S.x), .lit (.int .i64 S.m), .lit (.int .i64 S.s), .lit (.bool S.i), .lit (.bool S.o)]
def srcV (S : Src) : Value := (.agg #[.int .i64 S.x, .int .i64 S.m, .int .i64 S.s, .bool S.i, .bool S.o])
theorem srcV_inj {S T : Src} (h : srcV S = srcV T) : S = T := by
  obtain ⟨a1, a2, a3, a4, a5⟩ := S
  obtain ⟨b1, b2, b3, b4, b5⟩ := T
  simp [srcV] at h
  obtain ⟨rfl, rfl, rfl, rfl, rfl⟩ := h
  rfl
open Classical in
noncomputable def srcR (v : Value) : Option (DataW Unit × List MemPlace) := if h : ∃ S, v = srcV S then some (srcD h.choose, []) else none
theorem srcR_mk (S : Src) : srcR (srcV S) = some (srcD S, []) := by
  have h : ∃ T, srcV S = srcV T := ⟨S, rfl⟩
  unfold srcR
  rw [dif_pos h, ← srcV_inj h.choose_spec]
theorem srcR_inv {v : Value} {y : DataW Unit × List MemPlace} (h : srcR v = some y) : ∃ S : Src, v = srcV S := by
  unfold srcR at h
  split at h
  · assumption
  · cases h
theorem srcD_inj {S T : Src} (h : srcD S = srcD T) : S = T := by
  obtain ⟨a1, a2, a3, a4, a5⟩ := S
  obtain ⟨b1, b2, b3, b4, b5⟩ := T
  simp [srcD] at h
  obtain ⟨rfl, rfl, rfl, rfl, rfl⟩ := h
  rfl

/-- The map D holds just what f says. -/
structure HasE (D : DataW Unit) (f : Lit → Option Src) : Prop where
  has_ : ∀ k, Maps.has D k = (f k).isSome
  at_ : ∀ k S, f k = some S → ∀ z, D.atKey k z = srcD S
theorem HasE.read {D : DataW Unit} {f : Lit → Option Src} (h : HasE D f) {k : Lit} {S : Src} (hk : ∀ z, D.atKey k z = srcD S) : f k = some S := by
  have h1 := has_true_of_atKey hk
  rw [h.has_] at h1
  obtain ⟨T, hT⟩ := Option.isSome_iff_exists.1 h1
  have h2 := h.at_ k T hT .nil
  rw [hk] at h2
  rw [hT, srcD_inj h2]
theorem HasE.of_eq {D : DataW Unit} {f g : Lit → Option Src} (h : HasE D f) (e : ∀ k, g k = f k) : HasE D g :=
  ⟨fun k => by rw [h.has_, e], fun k S hk => h.at_ k S (by rw [← e]; exact hk)⟩
theorem HasE.none_ : HasE (.map []) (fun _ => none) := ⟨fun k => rfl, fun k S h => by cases h⟩
theorem HasE.put {D : DataW Unit} {f g : Lit → Option Src} (h : HasE D f) (hm : IsMap D) {k : Lit} (hk : WideAt.IsKeyLit k) (S : Src) (hg : g k = some S) (ho : ∀ z, z ≠ k → g z = f z) : HasE (D.put k (srcD S)) g where
  has_ := fun z => by
    by_cases e : z = k
    · rw [e, has_put_same hm hk, hg]; rfl
    · rw [has_put_other e, ho z e, h.has_]
  at_ := fun z T hz y => by
    by_cases e : z = k
    · rw [e, hg] at hz
      cases hz
      rw [e, atKey_put_same hm hk]
    · rw [atKey_put_other e]
      exact h.at_ z T (by rw [← ho z e]; exact hz) y
theorem HasE.del {D : DataW Unit} {f g : Lit → Option Src} (h : HasE D f) {k : Lit} (hg : g k = none) (ho : ∀ z, z ≠ k → g z = f z) : HasE (D.del k) g where
  has_ := fun z => by
    by_cases e : z = k
    · rw [e, has_del_same, hg]; rfl
    · rw [has_del_other e, ho z e, h.has_]
  at_ := fun z T hz y => by
    by_cases e : z = k
    · rw [e, hg] at hz; cases hz
    · rw [atKey_del_other e]
      exact h.at_ z T (by rw [← ho z e]; exact hz) y
/-- The first k of l, by their places. -/
def placeF (l : List Src) (k : Nat) : Lit → Option Src
  | .int .i64 i => if 0 ≤ i ∧ i < k then some (sl l i.toNat) else none
  | _ => none
theorem placeF_zero (l : List Src) (z : Lit) : placeF l 0 z = none := by
  unfold placeF
  split
  · rw [if_neg (by omega)]
  · rfl
theorem placeF_new (l : List Src) (k : Nat) : placeF l (k + 1) (.int .i64 k) = some (sl l k) := by
  simp [placeF]
  omega
theorem placeF_old (l : List Src) (k : Nat) (z : Lit) (h : z ≠ .int .i64 k) : placeF l (k + 1) z = placeF l k z := by
  unfold placeF
  split
  · rename_i i
    have hi : i ≠ (k : Int) := fun e => h (by rw [e])
    by_cases h1 : 0 ≤ i ∧ i < (k : Int)
    · rw [if_pos h1, if_pos (by omega)]
    · rw [if_neg h1, if_neg (by omega)]
  · rfl
theorem placeF_inv {l : List Src} {k : Nat} {z : Lit} {S : Src} (h : placeF l k z = some S) : ∃ i : Nat, i < k ∧ z = .int .i64 i ∧ S = sl l i := by
  unfold placeF at h
  split at h
  · rename_i i
    split at h
    · rename_i hi
      cases h
      exact ⟨i.toNat, by omega, by congr 1; omega, rfl⟩
    · cases h
  · cases h
/-- Those of f that are active, or still to come. -/
def stayF (f : Lit → Option Src) (left : Lit → Bool) (z : Lit) : Option Src := (f z).filter fun S => left z || actB S
theorem stayF_start {D : DataW Unit} {f : Lit → Option Src} (h : HasE D f) (z : Lit) : stayF f (Maps.has D) z = f z := by
  unfold stayF
  cases e : f z with
  | none => rfl
  | some S => simp [h.has_, e]
theorem stayF_struck {f : Lit → Option Src} {left : Lit → Bool} {k : Lit} {S : Src} (hk : f k = some S) (ha : actB S = false) : stayF f (fun z => left z && !z.sameKey k) k = none ∨ ¬ WideAt.IsKeyLit k := by
  by_cases hq : WideAt.IsKeyLit k
  · left
    have hs : k.sameKey k = true := by cases k <;> simp [Lit.sameKey, WideAt.IsKeyLit] at hq ⊢
    unfold stayF
    simp [hk, hs, ha]
  · exact .inr hq
theorem stayF_other {f : Lit → Option Src} {left : Lit → Bool} {k z : Lit} (h : z ≠ k) : stayF f (fun z => left z && !z.sameKey k) z = stayF f left z := by
  unfold stayF
  simp only [sameKey_ne h, Bool.not_false, Bool.and_true]
theorem stayF_stays {f : Lit → Option Src} {left : Lit → Bool} {k : Lit} {S : Src} (hk : f k = some S) (ha : actB S = true) (z : Lit) : stayF f (fun z => left z && !z.sameKey k) z = stayF f left z := by
  by_cases h : z = k
  · subst h
    unfold stayF
    rw [hk]
    simp [Option.filter, ha]
  · exact stayF_other h
theorem stayF_left {f : Lit → Option Src} {left : Lit → Bool} {k : Lit} {S : Src} (h : stayF f left k = some S) : f k = some S := by
  unfold stayF at h
  exact (Option.filter_eq_some_iff.1 h).1
end Go.Proofs.Ytcjmigjkjepkdaa
