/- The shape of several listed variables' readings. No program. -/
import Derived.Test.YtalelcloppbhcaaDoorPlain
import Derived.OpenVars
namespace Go.Proofs.YtalelcloppbhcaaDoor
open Go.RowKit

theorem vars_two {H : Type} {enc : TypeId × Value → H} {P : Program} {w : World} {sp : Nat → Bool} {n0 n1 : String} {gs : List (DataW H)} {ps : List MemPlace} (h : DataW.TrodVars enc P w sp [n0, n1] gs ps) : ∃ a b, gs = [a, b] := by
  rcases gs with _ | ⟨a, _ | ⟨b, _ | ⟨c, r⟩⟩⟩
  · exact h.elim
  · obtain ⟨_, _, _, _, _, _, _, _, _, _, h2, _⟩ := h; exact h2.elim
  · exact ⟨a, b, rfl⟩
  · obtain ⟨_, _, _, _, _, _, _, _, _, _, ⟨_, _, _, _, _, _, _, _, _, _, h3, _⟩, _⟩ := h; exact h3.elim

theorem vars_cons {H : Type} {enc : TypeId × Value → H} {P : Program} {w : World} {sp : Nat → Bool} {n : String} {ns : List String} {gs : List (DataW H)} {ps : List MemPlace} (h : DataW.TrodVars enc P w sp (n :: ns) gs ps) : ∃ a gs' ps', gs = a :: gs' ∧ DataW.TrodVars enc P w sp ns gs' ps' := by
  cases gs with
  | nil => exact h.elim
  | cons a r => obtain ⟨_, _, _, _, _, _, _, _, _, _, h2, _⟩ := h; exact ⟨a, r, _, rfl, h2⟩
theorem vars_nil {H : Type} {enc : TypeId × Value → H} {P : Program} {w : World} {sp : Nat → Bool} {gs : List (DataW H)} {ps : List MemPlace} (h : DataW.TrodVars enc P w sp [] gs ps) : gs = [] := by
  cases gs with
  | nil => rfl
  | cons a r => exact h.elim
theorem vars_four {H : Type} {enc : TypeId × Value → H} {P : Program} {w : World} {sp : Nat → Bool} {n0 n1 n2 n3 : String} {gs : List (DataW H)} {ps : List MemPlace} (h : DataW.TrodVars enc P w sp [n0, n1, n2, n3] gs ps) : ∃ a b c d, gs = [a, b, c, d] := by
  obtain ⟨a, g1, _, rfl, h1⟩ := vars_cons h
  obtain ⟨b, g2, _, rfl, h2⟩ := vars_cons h1
  obtain ⟨c, g3, _, rfl, h3⟩ := vars_cons h2
  obtain ⟨d, g4, _, rfl, h4⟩ := vars_cons h3
  obtain rfl := vars_nil h4
  exact ⟨a, b, c, d, rfl⟩
theorem vars_three {H : Type} {enc : TypeId × Value → H} {P : Program} {w : World} {sp : Nat → Bool} {n0 n1 n2 : String} {gs : List (DataW H)} {ps : List MemPlace} (h : DataW.TrodVars enc P w sp [n0, n1, n2] gs ps) : ∃ a b c, gs = [a, b, c] := by
  obtain ⟨a, g1, _, rfl, h1⟩ := vars_cons h
  obtain ⟨b, g2, _, rfl, h2⟩ := vars_cons h1
  obtain ⟨c, g3, _, rfl, h3⟩ := vars_cons h2
  obtain rfl := vars_nil h3
  exact ⟨a, b, c, rfl⟩
end Go.Proofs.YtalelcloppbhcaaDoor
