/- The marks once more, their number as whatever integer; what lies apart from a row stays. -/
import Derived.Test.YtddanfpiecgcgaaDoorByteS
import Derived.Test.YtddanfpiecgcgaaDoorRow
namespace Go.Proofs.YtddanfpiecgcgaaDoor
open Go.RowKit

/-- Marking leaves all that lies below the row's own base, and every row of another block. -/
structure Marked (T : TypeId) (lo : Nat) (a : Option Addr) (c m n : Nat) (w w' : World) : Prop where
  own : w'.ownsRow lo T 1 (.slice a n c) n ((marks m n).map (Value.int .u8))
  below : Below lo w w'
  grown : w.grownBy w' (Value.slice a n c).ownBlock
theorem markBytes_m (a : Option Addr) (n c m : Nat) (M : Int) (xs : List Int) (lo : Nat) (w : World) (hr : w.ownsRow lo 5 1 (.slice a n c) n (xs.map (Value.int .u8))) (hM : M = (m : Int)) (hn : n = xs.length) (hlo : lo ≤ w.heap.size) (hlen : n ≤ 1048576) (hm : m ≤ 1073741824) :
    Calls Tryd.prog 103 #[.slice a n c, .int .i64 M] w fun e w' => e = .returned (.int .i64 (M + (n : Int))) ∧ Marked 5 lo a c m n w w' := by
  subst hM
  subst hn
  exact (markBytes_any a c m xs lo w hr hlen hm).mono fun e w' ⟨he, ho, hg⟩ => ⟨by rw [he]; exact ret_int (by omega), ho, below_own hr hg hlo, hg⟩
theorem heldBytes_m (a : Option Addr) (n c m : Nat) (M : Int) (hi : Nat) (w : World) (hr : Nums .u8 w hi a c (marks m n)) (hM : M = (m : Int)) (hlen : n ≤ 1048576) (hm : m ≤ 1073741824) :
    Calls Tryd.prog 104 #[.slice a n c, .int .i64 M] w fun e w' => e = .returned (.int .i64 (M + (n : Int))) ∧ w = w' := by
  subst hM
  exact (heldBytes_any a c m n hi w hr hlen hm).mono fun e w' ⟨he, hw⟩ => ⟨by rw [he]; exact ret_int (by omega), hw⟩
/-- Behind draws. -/
theorem below_trans0 {B : Nat} {w w' : World} {n : Nat} (h : Below B (w.drewN n) w') : Below B w w' := (below_drewN (Below.refl B w) n).trans h
/-- A row whose blocks lie from B on stays where a row with a block below B is written. -/
theorem owns_apart {w w1 w' : World} {lo lo1 : Nat} {T T1 : TypeId} {sz sz1 n n1 : Nat} {v v1 : Value} {xs xs1 : List Value} (h : w.ownsRow lo T sz v n xs) (h1 : w1.ownsRow lo1 T1 sz1 v1 n1 xs1) (hB : w1.heap.size ≤ lo) (hg : w.grownBy w' v1.ownBlock) : w'.ownsRow lo T sz v n xs := by
  refine h.kept hg ?_
  by_cases hv : v.ownBlock = none
  · exact .inl hv
  · refine .inr fun e => ?_
    obtain ⟨k, hk⟩ := Option.ne_none_iff_exists'.1 hv
    have h2 := (h.lt k hk).1
    have h3 := (h1.lt k (by rw [← e, hk])).2
    omega
theorem Rw.marked {T : TypeId} {lo up : Nat} {a : Option Addr} {c m n : Nat} {ys : List Value} {w1 w w' : World} (h : Rw T 1 lo up a n c ys w1) (hm : Marked T lo a c m n w w') : Rw T 1 lo up a n c ((marks m n).map (Value.int .u8)) w' := ⟨hm.own, h.up⟩
theorem Nums.of_marks {T : TypeId} {lo : Nat} {a : Option Addr} {c m n : Nat} {w w' : World} (h : Marked T lo a c m n w w') : Nums .u8 w' w'.heap.size a c (marks m n) := (Nums.of_own h.own).2

end Go.Proofs.YtddanfpiecgcgaaDoor
