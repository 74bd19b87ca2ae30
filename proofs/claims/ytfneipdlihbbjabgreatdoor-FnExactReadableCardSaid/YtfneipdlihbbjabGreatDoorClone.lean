/- Contracts of bytes.Clone, slices.Grow and slices.Concat as chapter 2 uses them; of the copies of a decoder. -/
import Derived.Test.YtfneipdlihbbjabGreatDoorSpecBytes
import Derived.Test.YtfneipdlihbbjabGreatDoorDecS
import Derived.Test.YtfneipdlihbbjabGreatDoorHeld
import Derived.LaidEql
import Derived.WalkSpells
import Derived.Lib.LazyBuf
import Derived.Lib.AppendZeros
namespace Go.Proofs.YtfneipdlihbbjabGreatDoor
open Go.RowKit

theorem nums_one (k : IntKind) (xs : List Int) : ∀ u ∈ xs.map (Value.int k), u.oneCell' = true := by
  intro u hu
  simp only [List.mem_map] at hu
  obtain ⟨x, _, rfl⟩ := hu
  rfl
/-- The cells of a slice that is not nil, by an address. -/
theorem Nums.cells {k : IntKind} {w : World} {hi : Nat} {ad : Addr} {c : Nat} {xs : List Int} (h : Nums k w hi (some ad) c xs) : ∀ j u, (xs.map (Value.int k))[j]? = some u → w.cell? (ad.add j) = some u := by
  intro j u hj
  have hl : j < xs.length := by
    have := (List.getElem?_eq_some_iff.1 hj).1
    simpa using this
  rcases h.lies with h0 | ⟨b, off, ha, hlt, hc⟩
  · subst h0; simp at hl
  · injection ha with ha
    subst ha
    have e : (⟨b, off, none⟩ : Addr).add j = ⟨b, off + j, none⟩ := by
      by_cases h0 : j = 0
      · subst h0; rfl
      · simp [Addr.add, h0]
    rw [e, hc j hl, ← hj, el_cell _ _ _ hl]

set_option maxRecDepth 100000 in
set_option maxHeartbeats 1000000 in
theorem clone_any (a : Option Addr) (n c : Nat) (xs : List Int) (hi : Nat) (w : World) (hr : Nums .u8 w hi a c xs) (hn : n = xs.length) (hB : hi ≤ w.heap.size) (hlen : xs.length ≤ 4194304) :
    Calls Tryz.prog 60 #[.slice a n c] w (FreshNums 5 .u8 xs w) := by
  subst hn
  obtain ⟨i0, hi0, hz0, hz1, hz2⟩ := info_parts infoU8
  have q := fun (w : World) (a : Option Addr) (n c n' c' : Nat) => Lib.run_eql_slice_nil (P := Tryz.prog) w 55 5 a n c n' c' Tryz.underlying55
  cases a with
  | none =>
    have h0 : xs = [] := by
      rcases hr.lies with h | ⟨_, _, h, _⟩
      · exact h
      · cases h
    subst h0
    have HP : Hid (FreshNums 5 .u8 [] w (.returned (.slice none 0 0)) w) := ⟨none, 0, rfl, World.ownsRow_nil _ _ _ _, Below.refl _ _⟩
    clear hr
    go_enter Tryz.func60, Tryz.ntmps60
    go_wp2
    go_ret
    exact HP.out
  | some ad =>
    have HR := Lib.hid (hr.below ((Below.refl hi w).alloc hB (.cells #[] 5)))
    clear hr
    go_enter Tryz.func60, Tryz.ntmps60
    go_wp2_with (at_builtin; refine wpList_append_own _ rfl _ _ 55 rfl w.heap.size 5 i0 (.int .u8 0) 1 1 Tryz.underlying55 hi0 hz0 hz1 hz2 rfl (by decide) _ _ _ rfl (World.ownsRow_made w #[] 0 (Nat.le_refl _) (Nat.zero_le _) rfl) ad xs.length c (xs.map (Value.int .u8)) rfl (by simp) HR.out.cells (nums_one _ _) ?c3 ?c4 ?c5 ?_)
    case c3 => unfold maxLen; omega
    case c4 => omega
    case c5 => simp
    intro v' w1 hown' hg _
    obtain ⟨a2, c2, rfl⟩ := owns_shape hown'
    have HP : Hid (FreshNums 5 .u8 xs w (.returned (.slice a2 xs.length c2)) w1) := by
      refine ⟨a2, c2, rfl, by simpa using hown', ((Below.refl w.heap.size w).alloc (Nat.le_refl _) (.cells #[] 5)).trans (below_own (World.ownsRow_made (e := 5) (size := 1) w #[] 0 (Nat.le_refl _) (Nat.zero_le _) rfl) hg (by simp))⟩
    have e : 0 + xs.length = xs.length := by omega
    clear hown' hg
    go_wp2
    go_ret
    exact fresh_as HP.out (by simp)



end Go.Proofs.YtfneipdlihbbjabGreatDoor
