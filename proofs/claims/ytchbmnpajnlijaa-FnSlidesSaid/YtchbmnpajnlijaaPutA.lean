/- A whole agg stored into a row of the call's own: what stays, what the row is. No program. -/
import Derived.Test.YtchbmnpajnlijaaWin4
namespace Go.Proofs.Ytchbmnpajnlijaa
open Go.RowKit

/-- The cells of an agg written at g, o. -/
def putAg (W : World) (g o : Nat) (u0 u1 u2 u3 u4 u5 : Int) : World := ((((((W.setCell ⟨g, o, none⟩ (.int .i64 u0)).setCell ⟨g, o + 1, none⟩ (.int .i64 u1)).setCell ⟨g, o + 2, none⟩ (.int .i64 u2)).setCell ⟨g, o + 3, none⟩ (.int .i64 u3)).setCell ⟨g, o + 4, none⟩ (.int .i64 u4)).setCell ⟨g, o + 5, none⟩ (.int .i64 u5))
theorem flatA_put (l : List Ag) (j : Nat) (hj : j < l.length) (x0 x1 x2 x3 x4 x5 : Int) :
    ((((((flatA l).set (j * 6) (.int .i64 x0)).set (j * 6 + 1) (.int .i64 x1)).set (j * 6 + 2) (.int .i64 x2)).set (j * 6 + 3) (.int .i64 x3)).set (j * 6 + 4) (.int .i64 x4)).set (j * 6 + 5) (.int .i64 x5) = flatA (l.set j ⟨x0, x1, x2, x3, x4, x5⟩) := by
  have e2 : l = l.take j ++ ael l j :: l.drop (j + 1) := by
    have h1 : l.drop j = ael l j :: l.drop (j + 1) := rel_drop aD hj
    rw [← h1, List.take_append_drop]
  have hl : (flatA (l.take j)).length = j * 6 := by rw [flatA_len, List.length_take, Nat.min_eq_left (by omega)]
  have hs : ∀ T, l.set j T = l.take j ++ T :: l.drop (j + 1) := fun T => by
    rw [List.set_eq_take_append_cons_drop, if_pos hj]
  rw [hs]
  generalize ael l j = S at e2
  have fc : ∀ (S : Ag) (l : List Ag), flatA (S :: l) = aC S ++ flatA l := fun _ _ => rfl
  rw [e2, flatA_append, flatA_append, fc, fc]
  have e3 : (l.take j ++ S :: l.drop (j + 1)).take j = l.take j := by rw [List.take_append_of_le_length (by simp; omega), List.take_of_length_le (by simp; omega)]
  have e4 : (l.take j ++ S :: l.drop (j + 1)).drop (j + 1) = l.drop (j + 1) := by rw [← e2]
  rw [e3, e4]
  generalize flatA (l.take j) = A at hl
  generalize flatA (l.drop (j + 1)) = B
  rw [List.set_append_right _ _ (by omega), List.set_append_right _ _ (by omega), List.set_append_right _ _ (by omega), List.set_append_right _ _ (by omega), List.set_append_right _ _ (by omega), List.set_append_right _ _ (by omega), hl]
  rw [show j * 6 - j * 6 = 0 by omega, show j * 6 + 1 - j * 6 = 1 by omega, show j * 6 + 2 - j * 6 = 2 by omega, show j * 6 + 3 - j * 6 = 3 by omega, show j * 6 + 4 - j * 6 = 4 by omega, show j * 6 + 5 - j * 6 = 5 by omega]
  simp [aC]
section
variable {W W' : World} {lo g n c j o B : Nat} {T : TypeId} {l : List Ag} {u0 u1 u2 u3 u4 u5 : Int}
theorem putAg_own (h : W.ownsRow lo T 6 (.slice (some ⟨g, 0, none⟩) n c) n (flatA l)) (hj : j < l.length) (u0 u1 u2 u3 u4 u5 : Int) :
    (putAg W g (j * 6) u0 u1 u2 u3 u4 u5).ownsRow lo T 6 (.slice (some ⟨g, 0, none⟩) n c) n (flatA (l.set j ⟨u0, u1, u2, u3, u4, u5⟩)) ∧ W.grownBy (putAg W g (j * 6) u0 u1 u2 u3 u4 u5) (some g) := by
  have h0 := h.stored (j * 6) (.int .i64 u0)
  have h1 := h0.1.stored (j * 6 + 1) (.int .i64 u1)
  have h2 := h1.1.stored (j * 6 + 2) (.int .i64 u2)
  have h3 := h2.1.stored (j * 6 + 3) (.int .i64 u3)
  have h4 := h3.1.stored (j * 6 + 4) (.int .i64 u4)
  have h5 := h4.1.stored (j * 6 + 5) (.int .i64 u5)
  rw [flatA_put l j hj] at h5
  exact ⟨h5.1, grown_trans (grown_trans (grown_trans (grown_trans (grown_trans h0.2 h1.2) h2.2) h3.2) h4.2) h5.2⟩
theorem putAg_cell {p : Addr} {v : Option Value} (h : W.cell? p = v) (hp : g ≠ p.block) (o : Nat) (u0 u1 u2 u3 u4 u5 : Int) : (putAg W g o u0 u1 u2 u3 u4 u5).cell? p = v := by
  have e : ∀ q : Nat, (⟨g, q, none⟩ : Addr) ≠ p := fun q h2 => hp (by rw [← h2])
  unfold putAg
  rw [World.cell?_setCell_other _ _ _ _ (e _), World.cell?_setCell_other _ _ _ _ (e _), World.cell?_setCell_other _ _ _ _ (e _), World.cell?_setCell_other _ _ _ _ (e _), World.cell?_setCell_other _ _ _ _ (e _), World.cell?_setCell_other _ _ _ _ (e _), h]
theorem putAg_blk {b : Nat} {cs : Array Value} (h : Blk W b T cs) (hp : b ≠ g) (o : Nat) (u0 u1 u2 u3 u4 u5 : Int) : Blk (putAg W g o u0 u1 u2 u3 u4 u5) b T cs :=
  (((((h.far_ (p := ⟨g, o, none⟩) hp _).far_ (p := ⟨g, o + 1, none⟩) hp _).far_ (p := ⟨g, o + 2, none⟩) hp _).far_ (p := ⟨g, o + 3, none⟩) hp _).far_ (p := ⟨g, o + 4, none⟩) hp _).far_ (p := ⟨g, o + 5, none⟩) hp _
theorem putAg_below (h : Below B W W') (hg : B ≤ g) (o : Nat) (u0 u1 u2 u3 u4 u5 : Int) : Below B W (putAg W' g o u0 u1 u2 u3 u4 u5) :=
  (((((h.setCell (p := ⟨g, o, none⟩) hg _).setCell (p := ⟨g, o + 1, none⟩) hg _).setCell (p := ⟨g, o + 2, none⟩) hg _).setCell (p := ⟨g, o + 3, none⟩) hg _).setCell (p := ⟨g, o + 4, none⟩) hg _).setCell (p := ⟨g, o + 5, none⟩) hg _
theorem putAg_size (W : World) (g o : Nat) (u0 u1 u2 u3 u4 u5 : Int) : (putAg W g o u0 u1 u2 u3 u4 u5).heap.size = W.heap.size := by unfold putAg; simp [World.setCell]
end
end Go.Proofs.Ytchbmnpajnlijaa
