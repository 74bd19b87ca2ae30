/- Contracts of the laws' own helpers over slices of ints: the copy, the comparison, the marksI and what is held. The slice reads as a list (Nums), at most 1048576 long. -/
import Derived.Test.YtneolndbhklboaaProg
import Derived.Test.YtneolndbhklboaaMem
import Derived.WalkKit
import Derived.ProofKit
import Derived.Lib.Hide
import Derived.Deep.OwnRows
import Derived.Deep.QuietTactic
import Derived.BigQuiet
namespace Go.Proofs.Ytneolndbhklboaa
open Go.RowKit

theorem infoI64 : (Try.prog.info? 3).map (fun i => (i.zero, i.size, i.bytes)) = some (some (.int .i64 0), 1, 8) := by kernel_rfl

/-- The marks that a caller writes into ints. -/
def marksI (m : Nat) (n : Nat) : List Int := (List.range n).map fun i : Nat => ((m : Int) + (i : Int))
theorem marksI_len (m n : Nat) : (marksI m n).length = n := by simp [marksI]
theorem marksI_el (m n i : Nat) (hi : i < n) : el (marksI m n) i = ((m : Int) + (i : Int)) := by simp [marksI, el, List.getD, hi]
/-- The row behind k marksI. -/
def markToI (m : Nat) (xs : List Int) (j : Nat) : List Int := (marksI m j) ++ xs.drop j
theorem markToI_zero (m : Nat) (xs : List Int) : markToI m xs 0 = xs := by simp [markToI, marksI]
theorem markToI_len (m : Nat) (xs : List Int) (j : Nat) (hj : j ≤ xs.length) : (markToI m xs j).length = xs.length := by simp [markToI, marksI_len]; omega
theorem markToI_all (m : Nat) (xs : List Int) : markToI m xs xs.length = marksI m xs.length := by simp [markToI]
theorem markToI_step (m : Nat) (xs : List Int) (j : Nat) (hj : j < xs.length) : (markToI m xs j).set j ((m : Int) + (j : Int)) = markToI m xs (j + 1) := by
  unfold markToI
  rw [List.set_append_right _ _ (by rw [marksI_len]; exact Nat.le_refl _), marksI_len, Nat.sub_self]
  rw [List.drop_eq_getElem_cons hj, List.set_cons_zero]
  simp [marksI, List.range_succ]


set_option maxHeartbeats 400000 in
theorem eqInts_n (a b : Option Addr) (n m ca cb : Nat) (xs : List Int) (ha hb : Nat) (w : World) (h1 : Nums .i64 w ha a ca xs) (h2 : Nums .i64 w hb b cb xs) (hn : n = xs.length) (hm : m = xs.length) :
    Calls Try.prog 32 #[.slice a n ca, .slice b m cb] w fun e w' => e = .returned (.bool true) ∧ ∃ n, w' = w.drewN n := by
  subst hn
  subst hm
  have hc1 := h1.cap
  have hc2 := h1.big
  have hc3 := h2.cap
  by_cases h0 : xs = []
  · subst h0
    clear h1 h2
    go_enter Try.func32, Try.ntmps32
    go_wp2
    go_loopw [5] (fun i wr => i = .int .i64 0 ∧ wr = w) (fun i _ => 0 - (intOf i).toNat)
    case atStart => exact ⟨rfl, rfl⟩
    case round =>
      obtain ⟨rfl, rfl⟩ := hrel
      go_wp2
      go_ret
      exact ⟨rfl, 0, rfl⟩
  · rcases h1.lies with hl | ⟨b1, o1, rfl, hb1, hk1⟩
    · exact absurd hl h0
    rcases h2.lies with hl | ⟨b2, o2, rfl, hb2, hk2⟩
    · exact absurd hl h0
    have H1 := Lib.hid hk1
    have H2 := Lib.hid hk2
    clear hk1 hk2 h1 h2 h0
    go_enter Try.func32, Try.ntmps32
    go_wp2
    go_loopw [5] (fun i wr => ∃ k n : Nat, k ≤ xs.length ∧ i = .int .i64 k ∧ wr = w.drewN n) (fun i _ => xs.length - (intOf i).toNat)
    case atStart => exact ⟨0, 0, Nat.zero_le _, rfl, rfl⟩
    case round =>
      obtain ⟨k, n, hk, rfl, rfl⟩ := hrel
      by_cases hlt : k < xs.length
      · have hk1 := H1.out k hlt
        have hk2 := H2.out k hlt
        have hlt' : (k : Int) < (xs.length : Int) := by omega
        go_wp2
        go_quiet (fail)
        go_wp2
        go_roundw
        case rel => exact ⟨k + 1, _, by omega, by go_num, rfl⟩
        case measure => simp [intOf]; omega
      · obtain rfl : k = xs.length := by omega
        go_wp2
        go_ret
        exact ⟨rfl, n, rfl⟩

/-- What marking a row does: its numbers are the marksI; of the rest nothing has turned. -/
def MarkPostI (T : TypeId) (k : IntKind) (lo : Nat) (a : Option Addr) (c m n : Nat) (w : World) (e : Ending) (w' : World) : Prop :=
  e = .returned (.int .i64 ((m + n : Nat) : Int)) ∧ w'.ownsRow lo T 1 (.slice a n c) n ((marksI m n).map (Value.int k)) ∧ w.grownBy w' (Value.slice a n c).ownBlock

set_option maxHeartbeats 400000 in
theorem markInts_n (a : Option Addr) (c m : Nat) (xs : List Int) (lo : Nat) (w : World) (hr : w.ownsRow lo 3 1 (.slice a xs.length c) xs.length (xs.map (Value.int .i64))) (hlen : xs.length ≤ 1048576) (hm : m ≤ 1073741824) :
    Calls Try.prog 33 #[.slice a xs.length c, .int .i64 (m : Int)] w (MarkPostI 3 .i64 lo a c m xs.length w) := by
  obtain ⟨_, hN⟩ := Nums.of_own hr
  have hc1 := hN.cap
  have hc2 := hN.big
  clear hN
  by_cases h0 : xs = []
  · subst h0
    have HR := Lib.hid (show MarkPostI 3 .i64 lo a c m 0 w (.returned (.int .i64 (m : Int))) w from ⟨by simp, hr, World.grownBy.refl _ _⟩)
    clear hr
    go_enter Try.func33, Try.ntmps33
    go_wp2
    go_loopw [1, 5] (fun k i wr => i = .int .i64 0 ∧ k = .int .i64 (m : Int) ∧ wr = w) (fun _ i _ => 0 - (intOf i).toNat)
    case atStart => exact ⟨rfl, rfl, rfl⟩
    case round =>
      obtain ⟨rfl, rfl, rfl⟩ := hrel
      go_wp2
      go_ret
      exact HR.out
  · obtain ⟨g, rfl⟩ : ∃ g, a = some ⟨g, 0, none⟩ := by
      rcases hr.2 with ⟨hv, h1⟩ | ⟨g, cap, cur, hv, _⟩
      · exact absurd (List.length_eq_zero_iff.1 h1) h0
      · simp only [Value.slice.injEq] at hv
        exact ⟨g, hv.1⟩
    have HR := Lib.hid hr
    clear hr
    go_enter Try.func33, Try.ntmps33
    go_wp2
    go_loopw [1, 5] (fun k i wr => ∃ j : Nat, j ≤ xs.length ∧ i = .int .i64 j ∧ k = .int .i64 ((m + j : Nat) : Int) ∧ wr.ownsRow lo 3 1 (.slice (some ⟨g, 0, none⟩) xs.length c) xs.length ((markToI m xs j).map (Value.int .i64)) ∧ w.grownBy wr (some g)) (fun _ i _ => xs.length - (intOf i).toNat)
    case atStart => exact ⟨0, Nat.zero_le _, rfl, by simp, by rw [markToI_zero]; exact HR.out, World.grownBy.refl _ _⟩
    case round =>
      obtain ⟨j, hj, rfl, rfl, hown, hg⟩ := hrel
      by_cases hlt : j < xs.length
      · have hcell : wr.cell? ⟨g, j, none⟩ = some (.int .i64 (el (markToI m xs j) j)) := by rw [hown.cellAt j (by omega)]; exact el_cell _ _ _ (by rw [markToI_len _ _ _ hj]; exact hlt)
        have hfz := hown.frozenAt j
        have hst := hown.stored j (.int .i64 ((m : Int) + (j : Int)))
        rw [← List.map_set, markToI_step _ _ _ hlt] at hst
        have HS := Lib.hid hst
        have HG := Lib.hid hg
        clear hst hown hg
        go_wp2
        go_roundw
        case rel => exact ⟨j + 1, by omega, by go_num, by go_num, HS.out.1, grown_trans HG.out HS.out.2⟩
        case measure => simp [intOf]; omega
      · obtain rfl : j = xs.length := by omega
        rw [markToI_all] at hown
        have HP : Hid (MarkPostI 3 .i64 lo (some ⟨g, 0, none⟩) c m xs.length w (.returned (.int .i64 ((m + xs.length : Nat) : Int))) wr) := ⟨rfl, hown, hg⟩
        clear hown hg
        go_wp2
        go_ret
        exact HP.out

set_option maxHeartbeats 400000 in
theorem heldInts_n (a : Option Addr) (c m n : Nat) (hi : Nat) (w : World) (hr : Nums .i64 w hi a c (marksI m n)) (hlen : n ≤ 1048576) (hm : m ≤ 1073741824) :
    Calls Try.prog 34 #[.slice a n c, .int .i64 (m : Int)] w fun e w' => e = .returned (.int .i64 ((m + n : Nat) : Int)) ∧ w = w' := by
  have hc1 := hr.cap
  have hc2 := hr.big
  rw [marksI_len] at hc1
  by_cases h0 : n = 0
  · subst h0
    clear hr
    go_enter Try.func34, Try.ntmps34
    go_wp2
    go_loop [1, 5] (fun k i => i = .int .i64 0 ∧ k = .int .i64 (m : Int)) (fun _ i => 0 - (intOf i).toNat)
    case atStart => exact ⟨rfl, rfl⟩
    case round =>
      obtain ⟨rfl, rfl⟩ := hrel
      go_wp2
      go_ret
      exact ⟨rfl, rfl⟩
  · rcases hr.lies with hl | ⟨b, off, rfl, hb, hc⟩
    · have := congrArg List.length hl
      rw [marksI_len] at this
      exact absurd this h0
    rw [marksI_len] at hc
    have HC := Lib.hid hc
    clear hc hr h0
    go_enter Try.func34, Try.ntmps34
    go_wp2
    go_loop [1, 5] (fun k i => ∃ j : Nat, j ≤ n ∧ i = .int .i64 j ∧ k = .int .i64 ((m + j : Nat) : Int)) (fun _ i => n - (intOf i).toNat)
    case atStart => exact ⟨0, Nat.zero_le _, rfl, by simp⟩
    case round =>
      obtain ⟨j, hj, rfl, rfl⟩ := hrel
      by_cases hlt : j < n
      · have hcell := HC.out j hlt
        rw [marksI_el _ _ _ hlt] at hcell
        have hd : (((m : Int) + (j : Int)) != ((m : Int) + (j : Int))) = false := by simp
        go_wp2
        go_round
        case rel => exact ⟨j + 1, by omega, by go_num, by go_num⟩
        case measure => simp [intOf]; omega
      · obtain rfl : j = n := by omega
        go_wp2
        go_ret
        exact ⟨rfl, rfl⟩


end Go.Proofs.Ytneolndbhklboaa
