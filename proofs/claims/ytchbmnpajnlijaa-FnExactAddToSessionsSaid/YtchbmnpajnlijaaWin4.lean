/- Contracts of chapter 5: MergeAggs on both sides, with what it calls. (made by tools/mkwin4.py) -/
import Derived.Test.YtchbmnpajnlijaaWin3
namespace Go.Proofs.Ytchbmnpajnlijaa
open Go.RowKit

/-- Three blocks just laid, whole. -/
structure Three (w : World) (T U V : TypeId) (cs ds es : Array Value) (W : World) : Prop where
  a : Blk W w.heap.size T cs
  b : Blk W (w.heap.size + 1) U ds
  c : Blk W (w.heap.size + 1 + 1) V es
  bel : Below w.heap.size w W
section
variable {w W W' : World} {T U V : TypeId} {cs ds es : Array Value}
theorem three_new (w : World) (T U V : TypeId) (cs ds es : Array Value) : Three w T U V cs ds es (((w.alloc (.cells cs T)).alloc (.cells ds U)).alloc (.cells es V)) :=
  ⟨((Blk.new w T cs).alloc _).alloc _, by have := (Blk.new (w.alloc (.cells cs T)) U ds).alloc (.cells es V); rwa [World.size_alloc] at this, by have := Blk.new ((w.alloc (.cells cs T)).alloc (.cells ds U)) V es; simpa only [World.size_alloc] using this,
    (((Below.refl _ _).alloc (Nat.le_refl _) _).alloc (by simp) _).alloc (by simp; omega) _⟩
theorem Three.below (h : Three w T U V cs ds es W) (hb : Below W.heap.size W W') : Three w T U V cs ds es W' :=
  ⟨h.a.below hb, h.b.below hb, h.c.below hb, h.bel.trans (hb.mono h.bel.size)⟩
theorem Three.size (h : Three w T U V cs ds es W) : w.heap.size + 1 + 1 < W.heap.size := h.c.lt
end
theorem below_set6 {lo n : Nat} {w w1 : World} (hb : Below lo w w1) (hn : lo ≤ n) (a b c d e f : Value) : Below lo w ((((((w1.setCell ⟨n, 0, none⟩ a).setCell ⟨n, 1, none⟩ b).setCell ⟨n, 2, none⟩ c).setCell ⟨n, 3, none⟩ d).setCell ⟨n, 4, none⟩ e).setCell ⟨n, 5, none⟩ f) :=
  (((((hb.setCell (p := ⟨n, 0, none⟩) hn a).setCell (p := ⟨n, 1, none⟩) hn b).setCell (p := ⟨n, 2, none⟩) hn c).setCell (p := ⟨n, 3, none⟩) hn d).setCell (p := ⟨n, 4, none⟩) hn e).setCell (p := ⟨n, 5, none⟩) hn f
/-- A block whole, whose cells 2 .. 5 are written. -/
theorem mergedTo.blk {w w' : World} {g : Nat} {T U : TypeId} {cs : Array Value} {x2 x3 x4 x5 : Int} {a b c d e f : Value} (h : mergedTo w g 0 T cs x2 x3 x4 x5 w') (hB : Blk w g U #[a, b, c, d, e, f]) : Blk w' g U #[a, b, .int .i64 x2, .int .i64 x3, .int .i64 x4, .int .i64 x5] := by
  unfold mergedTo at h
  subst h
  have h0 := hB.alloc (.cells cs T)
  have h1 := h0.drew.put_ (0 + 2) (.int .i64 x2)
  have h2 := h1.drew.put_ (0 + 3) (.int .i64 x3)
  have h3 := h2.drew.put_ (0 + 4) (.int .i64 x4)
  have h4 := h3.drew.put_ (0 + 5) (.int .i64 x5)
  simpa using h4
theorem grown_drew (w : World) (row : Option Nat) : w.grownBy w.drew row := ⟨rfl, rfl, rfl, Nat.le_refl _, fun _ _ _ => rfl⟩
theorem mergedTo.grown {w w' : World} {g o : Nat} {T : TypeId} {cs : Array Value} {x2 x3 x4 x5 : Int} (h : mergedTo w g o T cs x2 x3 x4 x5 w') : w.grownBy w' (some g) := by
  unfold mergedTo at h
  subst h
  have a := fun (W : World) (i : Nat) (v : Value) => grown_trans (grown_drew W (some g)) (grown_setCell W.drew g i v)
  exact grown_trans (grown_trans (grown_trans (grown_trans (grown_alloc w (.cells cs T) (some g)) (a _ _ _)) (a _ _ _)) (a _ _ _)) (a _ _ _)
theorem Blk.mid {w : World} {g : Nat} {U : TypeId} {u0 u1 u2 u3 u4 u5 : Int} (h : Blk w g U #[.int .i64 u0, .int .i64 u1, .int .i64 u2, .int .i64 u3, .int .i64 u4, .int .i64 u5]) : Mid w g 0 u2 u3 u4 u5 :=
  ⟨(h.cell _).trans rfl, (h.cell _).trans rfl, (h.cell _).trans rfl, (h.cell _).trans rfl, h.frozen⟩
def sameA (S T : Ag) : Bool := decide (S.win = T.win ∧ S.key = T.key)
theorem cmpA_zero {S T : Ag} : cmpA S T = 0 ↔ sameA S T = true := by
  unfold cmpA sameA orI cmpI
  simp only [decide_eq_true_eq]
  repeat' split
  all_goals omega
def aheadA (S T : Ag) : Bool := decide (S.win < T.win ∨ S.win = T.win ∧ S.key < T.key)
theorem cmpA_neg {S T : Ag} : cmpA S T < 0 ↔ aheadA S T = true := by
  unfold cmpA aheadA orI cmpI
  simp only [decide_eq_true_eq]
  repeat' split
  all_goals omega
/-- What MergeAggs answers. -/
def mergeA (S T : Ag) : Ag := if aggOk S = true ∧ aggOk T = true ∧ sameA S T = true then sumA S T else aD
def mergeB (S T : Ag) : Bool := aggOk S && aggOk T && sameA S T
theorem mergeA_no1 {S T : Ag} (h : aggOk S = false) : mergeA S T = aD := by simp [mergeA, h]
theorem mergeB_no1 {S T : Ag} (h : aggOk S = false) : mergeB S T = false := by simp [mergeB, h]
theorem mergeA_no2 {S T : Ag} (h : aggOk T = false) : mergeA S T = aD := by simp [mergeA, h]
theorem mergeB_no2 {S T : Ag} (h : aggOk T = false) : mergeB S T = false := by simp [mergeB, h]
theorem mergeA_no3 {S T : Ag} (h : sameA S T = false) : mergeA S T = aD := by simp [mergeA, h]
theorem mergeB_no3 {S T : Ag} (h : sameA S T = false) : mergeB S T = false := by simp [mergeB, h]
theorem mergeA_yes {S T : Ag} (h : aggOk S = true) (h2 : aggOk T = true) (h3 : sameA S T = true) : mergeA S T = sumA S T := by simp [mergeA, h, h2, h3]
theorem mergeB_yes {S T : Ag} (h : aggOk S = true) (h2 : aggOk T = true) (h3 : sameA S T = true) : mergeB S T = true := by simp [mergeB, h, h2, h3]
theorem aggOk_bd {S : Ag} (h : aggOk S = true) : (0 ≤ S.win ∧ S.win ≤ 1000000) ∧ (0 ≤ S.key ∧ S.key ≤ 65535) ∧ (1 ≤ S.cnt ∧ S.cnt ≤ 1000000000) ∧ (-1000000000 ≤ S.sum ∧ S.sum ≤ 1000000000) ∧ (-1000000 ≤ S.mn ∧ S.mn ≤ 1000000) ∧ (-1000000 ≤ S.mx ∧ S.mx ≤ 1000000) ∧ S.mn ≤ S.mx := by
  unfold aggOk at h
  simp only [Bool.and_eq_true, decide_eq_true_eq] at h
  obtain ⟨⟨⟨⟨⟨⟨h0, h1⟩, h2⟩, h3⟩, h4⟩, h5⟩, h6⟩ := h
  exact ⟨inB_bd h0, inB_bd h1, inB_bd h2, inB_bd h3, inB_bd h4, inB_bd h5, h6⟩
/-- An agg by value. -/
def agV (S : Ag) : Value := .agg #[.int .i64 S.win, .int .i64 S.key, .int .i64 S.cnt, .int .i64 S.sum, .int .i64 S.mn, .int .i64 S.mx]
theorem agV_zero : agV aD = (.agg #[.int .i64 0, .int .i64 0, .int .i64 0, .int .i64 0, .int .i64 0, .int .i64 0]) := rfl

end Go.Proofs.Ytchbmnpajnlijaa
