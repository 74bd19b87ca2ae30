/- Contracts of the laws' own helpers over a decoder; DecoderOk. -/
import Derived.Test.YtpigollgjpkflaaDoorProg
import Derived.Test.YtpigollgjpkflaaDoorPlainDec
import Derived.WalkKit
import Derived.WalkSpells
import Derived.ProofKit
import Derived.Lib.Hide
import Derived.Outline
namespace Go.Proofs.YtpigollgjpkflaaDoor
open Go.RowKit






theorem specDecOk_any (a : Option Addr) (n c : Nat) (b : Bool) (w : World) (hn : n ≤ 9223372036854775807) :
    Calls Tryd.prog 12 #[.agg #[.slice a n c, .bool b]] w fun e w' => e = .returned (.bool (dOk n b)) ∧ Below w.heap.size w w' := by
  have b1 := Lib.hid ((Below.refl w.heap.size w).alloc (Nat.le_refl _) (.cells #[.slice a n c, .bool b] 30))
  by_cases h4 : n ≤ 400
  · cases b with
    | false =>
      rw [dOk_good h4]
      go_enter Tryd.func12, Tryd.ntmps12
      go_wp2
      go_ret
      exact ⟨rfl, b1.out⟩
    | true =>
      by_cases h0 : n = 0
      · subst h0
        rw [dOk_bad0]
        go_enter Tryd.func12, Tryd.ntmps12
        go_wp2
        go_ret
        exact ⟨rfl, b1.out⟩
      · rw [dOk_bad h0]
        have h01 : ((n : Int) == 0) = false := by simp; omega
        go_enter Tryd.func12, Tryd.ntmps12
        go_wp2
        go_ret
        exact ⟨rfl, b1.out⟩
  · rw [dOk_long h4]
    go_enter Tryd.func12, Tryd.ntmps12
    go_wp2
    go_ret
    exact ⟨rfl, b1.out⟩
theorem implDecOk_any (a : Option Addr) (n c : Nat) (b : Bool) (w : World) (hn : n ≤ 9223372036854775807) :
    Calls Tryd.prog 22 #[.agg #[.slice a n c, .bool b]] w fun e w' => e = .returned (.bool (dOk n b)) ∧ Below w.heap.size w w' := by
  have b1 := Lib.hid ((Below.refl w.heap.size w).alloc (Nat.le_refl _) (.cells #[.slice a n c, .bool b] 30))
  by_cases h4 : n ≤ 400
  · cases b with
    | false =>
      rw [dOk_good h4]
      go_enter Tryd.func22, Tryd.ntmps22
      go_wp2
      go_ret
      exact ⟨rfl, b1.out⟩
    | true =>
      by_cases h0 : n = 0
      · subst h0
        rw [dOk_bad0]
        go_enter Tryd.func22, Tryd.ntmps22
        go_wp2
        go_ret
        exact ⟨rfl, b1.out⟩
      · rw [dOk_bad h0]
        have h01 : 0 < n := by omega
        go_enter Tryd.func22, Tryd.ntmps22
        go_wp2
        go_ret
        exact ⟨rfl, b1.out⟩
  · rw [dOk_long h4]
    go_enter Tryd.func22, Tryd.ntmps22
    go_wp2
    go_ret
    exact ⟨rfl, b1.out⟩

end Go.Proofs.YtpigollgjpkflaaDoor
