/- Contracts of chapter 5: RaiseMark and NewShard, on impl's and on spec's side. (made by tools/mkraise.py) -/
import Derived.Test.YtnfhlfbkdhpacaaShardOk
import Derived.Test.YtnfhlfbkdhpacaaClone2
namespace Go.Proofs.Ytnfhlfbkdhpacaa
open Go.RowKit

/-- A shard and whether, in memory of the call's own. -/
def FreshShardB (l : List Ag) (mk lt ov : Int) (ok : Bool) (w : World) (e : Ending) (w' : World) : Prop :=
  ∃ a c, e = .returned (.tuple #[.agg #[.slice a l.length c, .int .i64 mk, .int .i64 lt, .int .i64 ov], .bool ok]) ∧ w'.ownsRow w.heap.size 37 6 (.slice a l.length c) l.length (flatA l) ∧ Below w.heap.size w w'
theorem row_keep {W : World} {lo n g : Nat} {v : Value} {xs : List Value} {cs : Array Value} (h : W.ownsRow lo 37 6 v n xs) (hb : Blk W g 29 cs) (i : Nat) (u : Value) : (W.setCell ⟨g, i, none⟩ u).ownsRow lo 37 6 v n xs ∧ Blk (W.setCell ⟨g, i, none⟩ u) g 29 (cs.setIfInBounds i u) :=
  ⟨h.kept (grown_setCell _ _ _ _) (.inr (own_blk_ne h hb (by decide)).symm), hb.put_ i u⟩
theorem row_keep4 {W : World} {lo n g : Nat} {v : Value} {xs : List Value} {cs : Array Value} (h : W.ownsRow lo 37 6 v n xs) (hb : Blk W g 29 cs) (a b c d : Value) : ((((W.setCell ⟨g, 0, none⟩ a).setCell ⟨g, 1, none⟩ b).setCell ⟨g, 2, none⟩ c).setCell ⟨g, 3, none⟩ d).ownsRow lo 37 6 v n xs := by
  have e0 := row_keep h hb 0 a
  have e1 := row_keep e0.1 e0.2 1 b
  have e2 := row_keep e1.1 e1.2 2 c
  exact (row_keep e2.1 e2.2 3 d).1
theorem below_set4 {lo n : Nat} {w w1 : World} (hb : Below lo w w1) (hn : lo ≤ n) (a b c d : Value) : Below lo w ((((w1.setCell ⟨n, 0, none⟩ a).setCell ⟨n, 1, none⟩ b).setCell ⟨n, 2, none⟩ c).setCell ⟨n, 3, none⟩ d) :=
  (((hb.setCell (p := ⟨n, 0, none⟩) hn a).setCell (p := ⟨n, 1, none⟩) hn b).setCell (p := ⟨n, 2, none⟩) hn c).setCell (p := ⟨n, 3, none⟩) hn d
noncomputable def raiseOk (l : List Ag) (mk lt ov m : Int) : Bool := sokB l mk lt ov && (inB m (-1) 1000000 && decide (mk < m))
noncomputable def raiseM (l : List Ag) (mk lt ov m : Int) : Int := if raiseOk l mk lt ov m = true then m else mk
section
variable {l : List Ag} {mk lt ov m : Int}
theorem raise_no1 (h : sokB l mk lt ov = false) : raiseOk l mk lt ov m = false ∧ raiseM l mk lt ov m = mk := by simp [raiseM, raiseOk, h]
theorem raise_no2 (h : inB m (-1) 1000000 = false) : raiseOk l mk lt ov m = false ∧ raiseM l mk lt ov m = mk := by simp [raiseM, raiseOk, h]
theorem raise_no3 (h : m ≤ mk) : raiseOk l mk lt ov m = false ∧ raiseM l mk lt ov m = mk := by
  have h' : ¬ mk < m := by omega
  simp [raiseM, raiseOk, h']
theorem raise_yes (h : sokB l mk lt ov = true) (h2 : inB m (-1) 1000000 = true) (h3 : mk < m) : raiseOk l mk lt ov m = true ∧ raiseM l mk lt ov m = m := by simp [raiseM, raiseOk, h, h2, h3]
end

end Go.Proofs.Ytnfhlfbkdhpacaa
