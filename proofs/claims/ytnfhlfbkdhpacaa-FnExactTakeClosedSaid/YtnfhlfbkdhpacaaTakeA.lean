/- TakeClosed on both sides, in one form. -/
import Derived.Test.YtnfhlfbkdhpacaaTakeS2
namespace Go.Proofs.Ytnfhlfbkdhpacaa
open Go.RowKit

noncomputable def tkB (al : Bool) (l : List Ag) (mk lt ov sz : Int) : Bool := sokB l mk lt ov && (inB sz 1 1000000 && !(pickL al mk sz l).isEmpty)
noncomputable def tkL (al : Bool) (l : List Ag) (mk lt ov sz : Int) : List Ag := if tkB al l mk lt ov sz = true then l.drop 1 else l
noncomputable def tkS (al : Bool) (l : List Ag) (mk lt ov sz : Int) : Ag := if tkB al l mk lt ov sz = true then ael l 0 else aD
def TakeOwn (L : List Ag) (S : Ag) (ok : Bool) (mk lt ov : Int) (w : World) (e : Ending) (w' : World) : Prop :=
  ∃ a c, e = .returned (.tuple #[.agg #[.slice a L.length c, .int .i64 mk, .int .i64 lt, .int .i64 ov], .agg #[.int .i64 S.win, .int .i64 S.key, .int .i64 S.cnt, .int .i64 S.sum, .int .i64 S.mn, .int .i64 S.mx], .bool ok]) ∧ w'.ownsRow w.heap.size 37 6 (.slice a L.length c) L.length (flatA L) ∧ Below w.heap.size w w'
def TakeRead (L : List Ag) (S : Ag) (ok : Bool) (mk lt ov : Int) (w : World) (e : Ending) (w' : World) : Prop :=
  ∃ a c, e = .returned (.tuple #[.agg #[.slice a L.length c, .int .i64 mk, .int .i64 lt, .int .i64 ov], .agg #[.int .i64 S.win, .int .i64 S.key, .int .i64 S.cnt, .int .i64 S.sum, .int .i64 S.mn, .int .i64 S.mx], .bool ok]) ∧ Ags w' w'.heap.size a c L ∧ Below w.heap.size w w'
theorem tk_no {al : Bool} {l : List Ag} {mk lt ov sz : Int} (h : tkB al l mk lt ov sz = false) : tkL al l mk lt ov sz = l ∧ tkS al l mk lt ov sz = aD := by simp [tkL, tkS, h]
theorem tk_yes {al : Bool} {l : List Ag} {mk lt ov sz : Int} (h : tkB al l mk lt ov sz = true) : tkL al l mk lt ov sz = l.drop 1 ∧ tkS al l mk lt ov sz = ael l 0 := by simp [tkL, tkS, h]
theorem own_of_none {al : Bool} {l : List Ag} {mk lt ov sz : Int} {w : World} {e : Ending} {w' : World} (hb : tkB al l mk lt ov sz = false) (h : FreshNone l mk lt ov w e w') : TakeOwn (tkL al l mk lt ov sz) (tkS al l mk lt ov sz) (tkB al l mk lt ov sz) mk lt ov w e w' := by
  rw [(tk_no hb).1, (tk_no hb).2, hb]
  exact h
theorem read_of_none {al : Bool} {l : List Ag} {mk lt ov sz : Int} {w : World} {e : Ending} {w' : World} (hb : tkB al l mk lt ov sz = false) (h : FreshNone l mk lt ov w e w') : TakeRead (tkL al l mk lt ov sz) (tkS al l mk lt ov sz) (tkB al l mk lt ov sz) mk lt ov w e w' := by
  rw [(tk_no hb).1, (tk_no hb).2, hb]
  obtain ⟨a, c, e1, o, b⟩ := h
  exact ⟨a, c, e1, Ags.of_own o, b⟩
theorem implTake_any (a : Option Addr) (c : Nat) (mk lt ov sz : Int) (al : Bool) (l : List Ag) (hi : Nat) (w : World) (hr : Ags w hi a c l) (hB : hi ≤ w.heap.size) (hlen : l.length ≤ 1048576) :
    Calls Try.prog 15 #[.agg #[.slice a l.length c, .int .i64 mk, .int .i64 lt, .int .i64 ov], .int .i64 sz, .bool al] w (TakeOwn (tkL al l mk lt ov sz) (tkS al l mk lt ov sz) (tkB al l mk lt ov sz) mk lt ov w) := by
  cases hS : sokB l mk lt ov with
  | false => exact (implTake_no1 a c mk lt ov sz al l hi w hr hB hlen hS).mono fun e w' h => own_of_none (by simp [tkB, hS]) h
  | true =>
    cases hZ : inB sz 1 1000000 with
    | false => exact (implTake_no2 a c mk lt ov sz al l hi w hr hB hlen hS hZ).mono fun e w' h => own_of_none (by simp [tkB, hZ]) h
    | true =>
      refine (implTake_go a c mk lt ov sz al l hi w hr hB hlen hS hZ).mono fun e w' h => ?_
      rcases h with ⟨hp, h⟩ | ⟨hp, a2, c2, e1, o, b⟩
      · exact own_of_none (by simp [tkB, hp]) h
      · have hb : tkB al l mk lt ov sz = true := by simp [tkB, hS, hZ, hp]
        rw [(tk_yes hb).1, (tk_yes hb).2, hb]
        exact ⟨a2, c2, e1, o, b⟩
theorem specTake_any (a : Option Addr) (c : Nat) (mk lt ov sz : Int) (al : Bool) (l : List Ag) (hi : Nat) (w : World) (hr : Ags w hi a c l) (hB : hi ≤ w.heap.size) (hlen : l.length ≤ 1048576) :
    Calls Try.prog 14 #[.agg #[.slice a l.length c, .int .i64 mk, .int .i64 lt, .int .i64 ov], .int .i64 sz, .bool al] w (TakeRead (tkL al l mk lt ov sz) (tkS al l mk lt ov sz) (tkB al l mk lt ov sz) mk lt ov w) := by
  cases hS : sokB l mk lt ov with
  | false => exact (specTake_no1 a c mk lt ov sz al l hi w hr hB hlen hS).mono fun e w' h => read_of_none (by simp [tkB, hS]) h
  | true =>
    cases hZ : inB sz 1 1000000 with
    | false => exact (specTake_no2 a c mk lt ov sz al l hi w hr hB hlen hS hZ).mono fun e w' h => read_of_none (by simp [tkB, hZ]) h
    | true =>
      by_cases hl : l = []
      · exact (specTake_no3 a c mk lt ov sz al l hi w hr hB hlen hS hZ (by simp [hl])).mono fun e w' h => read_of_none (by simp [tkB, hl, pickL]) h
      · cases al with
        | true =>
          have hb : tkB true l mk lt ov sz = true := by
            have e : pickL true mk sz l = l := List.filter_eq_self.2 (fun x _ => by simp [mayOut])
            simp [tkB, hS, hZ, e, hl]
          refine (specTake_yes1 a c mk lt ov sz l hi w hr hB hlen hS hZ hl).mono fun e w' h => ?_
          obtain ⟨a2, c2, e1, o, b⟩ := h
          rw [(tk_yes hb).1, (tk_yes hb).2, hb]
          exact ⟨a2, c2, e1, o, b⟩
        | false =>
          by_cases hc : closedL l mk lt ov sz = []
          · have hp : pickL false mk sz l = [] := by rw [← closed_yes hS hZ]; exact hc
            exact (specTake_no4 a c mk lt ov sz l hi w hr hB hlen hS hZ hl hc).mono fun e w' h => read_of_none (by simp [tkB, hp]) h
          · have hp : ¬ pickL false mk sz l = [] := by rw [← closed_yes (lt := lt) (ov := ov) hS hZ]; exact hc
            have hb : tkB false l mk lt ov sz = true := by simp [tkB, hS, hZ, hp]
            refine (specTake_yes2 a c mk lt ov sz l hi w hr hB hlen hS hZ hl hc).mono fun e w' h => ?_
            obtain ⟨a2, c2, e1, o, b⟩ := h
            rw [(tk_yes hb).1, (tk_yes hb).2, hb]
            exact ⟨a2, c2, e1, o, b⟩
end Go.Proofs.Ytnfhlfbkdhpacaa
