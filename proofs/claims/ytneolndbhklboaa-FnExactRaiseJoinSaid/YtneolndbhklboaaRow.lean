/- Rows of the call's own with the bounds between which their blocks lie; how they are carried. No program. -/
import Derived.Test.YtneolndbhklboaaMem
namespace Go.Proofs.Ytneolndbhklboaa
open Go.RowKit

/-- A row of the call's own whose block, where it has one, lies in lo .. up - 1. -/
structure Rw (T : TypeId) (sz lo up : Nat) (a : Option Addr) (n c : Nat) (xs : List Value) (w : World) : Prop where
  own : w.ownsRow lo T sz (.slice a n c) n xs
  up : ∀ k, (Value.slice a n c).ownBlock = some k → k < up

section
variable {T : TypeId} {sz lo up n c : Nat} {a : Option Addr} {xs : List Value} {w w' : World}
theorem Rw.new (h : w.ownsRow lo T sz (.slice a n c) n xs) : Rw T sz lo w.heap.size a n c xs w := ⟨h, fun k hk => (h.lt k hk).2⟩
theorem Rw.below {B : Nat} (h : Rw T sz lo up a n c xs w) (hb : Below B w w') (hB : up ≤ B) : Rw T sz lo up a n c xs w' := by
  refine ⟨⟨h.own.1, ?_⟩, h.up⟩
  rcases h.own.2 with h2 | ⟨g, cap, cur, hv, hg, hh, r⟩
  · exact .inl h2
  · have hk := h.up g (by rw [hv]; rfl)
    exact .inr ⟨g, cap, cur, hv, hg, by rw [hb.block g (by omega)]; exact hh, r⟩
/-- It stays where a row of other blocks is written. -/
theorem Rw.other {T1 : TypeId} {sz1 lo1 up1 n1 c1 : Nat} {a1 : Option Addr} {ys : List Value} {w1 : World} (h : Rw T sz lo up a n c xs w) (h1 : Rw T1 sz1 lo1 up1 a1 n1 c1 ys w1) (hg : w.grownBy w' (Value.slice a1 n1 c1).ownBlock) (hd : up ≤ lo1 ∨ up1 ≤ lo) : Rw T sz lo up a n c xs w' := by
  refine ⟨h.own.kept hg ?_, h.up⟩
  by_cases hv : (Value.slice a n c).ownBlock = none
  · exact .inl hv
  · refine .inr fun e => ?_
    obtain ⟨k, hk⟩ := Option.ne_none_iff_exists'.1 hv
    have h2 := (h.own.lt k hk).1
    have h3 := h.up k hk
    have h4 := (h1.own.lt k (by rw [← e, hk])).1
    have h5 := h1.up k (by rw [← e, hk])
    omega
theorem Rw.nums {k : IntKind} {ys : List Int} (h : Rw T 1 lo up a n c (ys.map (Value.int k)) w) : Nums k w w.heap.size a c ys := (Nums.of_own h.own).2
theorem Rw.len {k : IntKind} {ys : List Int} (h : Rw T 1 lo up a n c (ys.map (Value.int k)) w) : n = ys.length := (Nums.of_own h.own).1
theorem Blk.far {g : Nat} {t : TypeId} {cs : Array Value} {T1 : TypeId} {sz1 lo1 up1 n1 c1 : Nat} {a1 : Option Addr} {ys : List Value} {w1 : World} (h : Blk w g t cs) (h1 : Rw T1 sz1 lo1 up1 a1 n1 c1 ys w1) (hg : w.grownBy w' (Value.slice a1 n1 c1).ownBlock) (hd : g < lo1 ∨ up1 ≤ g) : Blk w' g t cs :=
  h.grown hg fun e => by
    have h4 := (h1.own.lt g e.symm).1
    have h5 := h1.up g e.symm
    omega
end

end Go.Proofs.Ytneolndbhklboaa
