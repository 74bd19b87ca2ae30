/- impl.dismiss: those go for whom nobody waits, whichever order the map tells. -/
import Derived.Test.YtcjmigjkjepkdaaCrowdMade
namespace Go.Proofs.Ytcjmigjkjepkdaa
open Go.RowKit Go.Maps

set_option maxHeartbeats 2000000 in
set_option maxRecDepth 100000 in
theorem dismiss_any (b n : Nat) (D0 : DataW Unit) (f : Lit → Option Src) (w : World) (hown : w.ownsMap Try.prog 3 srcR b n D0) (hE : HasE D0 f) :
    Calls Try.prog 33 #[.map (some b)] w fun e w' => e = .returned (.tuple #[]) ∧ w.grownBy w' (some b) ∧ ∃ D, w'.ownsMap Try.prog 3 srcR b n D ∧ HasE D (fun z => (f z).filter actB) := by
  have HE0 := Lib.hid hE
  clear hE
  go_enter Try.func33, Try.ntmps33
  go_wp2_with (first
    | (at_range; refine wpList_range_own _ rfl _ 59 rfl 3 28 keyI Try.underlying59 srcR b n D0 rfl hown ?_; intro w0 hrg0 hg0 hs0)
    | go_in)
  go_frame
  go_loopw [2] (fun _ wr => ∃ (left : Lit → Bool) (cnt : Nat) (D : DataW Unit), wr.ranges Try.prog 3 srcR b w.heap.size n D left cnt ∧ HasE D (stayF f left) ∧ w.grownBy wr (some b))
    (fun _ wr => wr.rangeLeft b w.heap.size)
  case atStart => exact ⟨_, _, _, hrg0, HE0.out.of_eq (stayF_start HE0.out), hg0.but _⟩
  case round =>
    obtain ⟨left, cnt, D, hrg, hE, hgw⟩ := hrel
    have HE := Lib.hid hE
    have HG := Lib.hid hgw
    clear hE hgw
    go_wp2_with (first
      | (at_next; refine wpList_next_ranges _ rfl _ rfl 3 keyI srcR (Value.int .i64) srcV (fun key kl hkey => by obtain ⟨x, rfl, _⟩ := Maps.keyOf_int_inv Try.underlying3 hkey; exact ⟨x, rfl⟩) (fun v y hv => srcR_inv hv) b w.heap.size n D left cnt rfl hrg ?_ ?_)
      | go_in)
    · intro _ hl0
      have HL := Lib.hid hl0
      have HR := Lib.hid hrg
      clear hl0 hrg
      go_wp2
      go_end0
      exact ⟨rfl, HG.out, D, HR.out.owns, HE.out.of_eq (fun z => by unfold stayF; simp [HL.out])⟩
    · intro x S kl y ps w1 cnt1 hkey hlx hv hat hrg1 hlt hg1 hs1 hen
      obtain ⟨x', ex, rfl, hwx⟩ := Maps.keyOf_int_inv Try.underlying3 hkey
      cases ex
      have hy : y = srcD S := by rw [srcR_mk] at hv; cases hv; rfl
      subst hy
      have HF := Lib.hid (stayF_left (HE.out.read hat))
      have HGW := Lib.hid (HG.out.andThen hg1 (fun j hj => by cases hj; exact Or.inl (Nat.le_refl _)))
      have HRG := Lib.hid hrg1
      have HRG0 := Lib.hid hrg
      have HLT := Lib.hid hlt
      have HKY := Lib.hid hkey
      clear hv hat hrg1 hlt hg1 hs1 hrg hlx hkey hwx
      obtain ⟨sx, m, s, i, o⟩ := S
      have HA := Lib.hid (active_x sx m s i o)
      simp only [srcV] at hen ⊢
      cases ha : (o && !i) with
      | false =>
        rw [ha] at HA
        have HAC := Lib.hid ha
        clear ha
        go_wp2_with (first
          | (go_at_call 51; refine (HA.out _).mono ?_; rintro e w2 ⟨rfl, hb⟩; have HB2 := Lib.hid hb; clear hb)
          | (at_delete; refine wpList_delete_ranges _ rfl _ _ 59 3 rfl 28 keyI Try.underlying59 srcR b w.heap.size n _ _ _ rfl ((HRG.out.alloc _).kept (grown_below HB2.out) (by simp) (by simp)) _ _ rfl HKY.out ?_; intro w3 cnt2 hrg2 hle hturn; go_frame)
          | go_in)
        rw [strike_twice] at hrg2
        go_roundw
        case rel => exact ⟨_, cnt2, _, hrg2, HE.out.del ((stayF_struck HF.out HAC.out).resolve_right (fun h => h trivial)) (fun z hz => stayF_other hz), (((HGW.out.andThen (World.grownBy_alloc _ _ none) (by simp)).andThen (grown_below HB2.out) (by simp)).andThen hturn.grown (fun j hj => by cases hj; exact Or.inr rfl))⟩
        case measure => rw [hrg2.left_eq, HRG0.out.left_eq]; exact Nat.lt_of_le_of_lt hle HLT.out
      | true =>
        rw [ha] at HA
        have HAC := Lib.hid ha
        clear ha
        go_wp2_with (first
          | (go_at_call 51; refine (HA.out _).mono ?_; rintro e w2 ⟨rfl, hb⟩; have HB2 := Lib.hid hb; clear hb)
          | go_in)
        have R2 := Lib.hid ((HRG.out.alloc (.cells #[.int .i64 sx, .int .i64 m, .int .i64 s, .bool i, .bool o] 28)).kept (grown_below HB2.out) (by simp) (by simp))
        go_roundw
        case rel => exact ⟨_, cnt1, _, R2.out, HE.out.of_eq (fun z => stayF_stays HF.out HAC.out z), ((HGW.out.andThen (World.grownBy_alloc _ _ none) (by simp)).andThen (grown_below HB2.out) (by simp))⟩
        case measure => rw [R2.out.left_eq, HRG0.out.left_eq]; exact HLT.out
end Go.Proofs.Ytcjmigjkjepkdaa
