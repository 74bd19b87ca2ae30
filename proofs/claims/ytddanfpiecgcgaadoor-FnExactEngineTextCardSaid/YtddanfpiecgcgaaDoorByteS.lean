/- Contracts of the laws' own helpers over slices of bytes: the copy, the comparison, the marks and what is held. The slice reads as a list (Nums), at most 1048576 long. -/
import Derived.Test.YtddanfpiecgcgaaDoorProg
import Derived.Test.YtddanfpiecgcgaaDoorMem
import Derived.WalkKit
import Derived.ProofKit
import Derived.Lib.Hide
import Derived.Deep.OwnRows
import Derived.Deep.QuietTactic
import Derived.BigQuiet
namespace Go.Proofs.YtddanfpiecgcgaaDoor
open Go.RowKit

theorem infoU8 : (Tryd.prog.info? 5).map (fun i => (i.zero, i.size, i.bytes)) = some (some (.int .u8 0), 1, 1) := by kernel_rfl

set_option maxHeartbeats 400000 in
theorem toBytes_any (a : Option Addr) (n c : Nat) (xs : List Int) (hi : Nat) (w : World) (hr : Nums .u8 w hi a c xs) (hn : n = xs.length) (hB : hi ≤ w.heap.size) (hlen : xs.length ≤ 1048576) :
    Calls Tryd.prog 129 #[.slice a n c] w (FreshNums 5 .u8 xs w) := by
  subst hn
  have HF := Lib.hid (fresh_copy 5 .u8 xs w (by unfold maxLen; omega))
  have hmk := fun W => run_make_row' (P := Tryd.prog) 57 5 (.int .u8 0) 1 Tryd.underlying57 infoU8 rfl .i64 .i64 xs.length (by omega) (by omega) W
  rw [partK_zero] at hmk
  have hc1 := hr.cap
  have hc2 := hr.big
  rcases hr.lies with h0 | ⟨b, off, rfl, hb, hc⟩
  · subst h0
    have hmk0 : ∀ W, (Instr.makeSlice 57 (.int .i64 0) (.int .i64 0)).run Tryd.prog W = .ok (.slice (some ⟨W.heap.size, 0, none⟩) 0 0) (W.alloc (.cells (fullK .u8 []) 5)) := hmk
    clear hmk hr
    go_enter Tryd.func129, Tryd.ntmps129
    go_wp2
    go_loopw [4] (fun i wr => i = .int .i64 0 ∧ wr = w.alloc (.cells (fullK .u8 []) 5)) (fun i _ => 0 - (intOf i).toNat)
    case atStart => exact ⟨rfl, rfl⟩
    case round =>
      obtain ⟨rfl, rfl⟩ := hrel
      go_wp2
      go_ret
      exact HF.out
  · have HC := Lib.hid hc
    clear hc hr
    go_enter Tryd.func129, Tryd.ntmps129
    go_wp2
    go_loopw [4] (fun i wr => ∃ k : Nat, k ≤ xs.length ∧ i = .int .i64 k ∧ wr = w.alloc (.cells (partK .u8 xs k) 5)) (fun i _ => xs.length - (intOf i).toNat)
    case atStart => exact ⟨0, Nat.zero_le _, rfl, rfl⟩
    case round =>
      obtain ⟨k, hk, rfl, rfl⟩ := hrel
      by_cases hlt : k < xs.length
      · have hck := HC.out k hlt
        have hph := partK_here .u8 xs k hlt
        have hps := partK_step .u8 xs k hlt
        have hbw : b < w.heap.size := by omega
        go_wp2
        go_roundw
        case rel => exact ⟨k + 1, by omega, by go_num, rfl⟩
        case measure => simp [intOf]; omega
      · obtain rfl : k = xs.length := by omega
        go_wp2
        go_ret
        rw [partK_full]
        exact HF.out

set_option maxHeartbeats 400000 in
theorem eqBytes_any (a b : Option Addr) (n m ca cb : Nat) (xs : List Int) (ha hb : Nat) (w : World) (h1 : Nums .u8 w ha a ca xs) (h2 : Nums .u8 w hb b cb xs) (hn : n = xs.length) (hm : m = xs.length) :
    Calls Tryd.prog 134 #[.slice a n ca, .slice b m cb] w fun e w' => e = .returned (.bool true) ∧ ∃ n, w' = w.drewN n := by
  subst hn
  subst hm
  have hc1 := h1.cap
  have hc2 := h1.big
  have hc3 := h2.cap
  by_cases h0 : xs = []
  · subst h0
    clear h1 h2
    go_enter Tryd.func134, Tryd.ntmps134
    go_wp2
    go_loopw [5] (fun i wr => i = .int .i64 0 ∧ wr = w) (fun i _ => 0 - (intOf i).toNat)
    case atStart => exact ⟨rfl, rfl⟩
    case round =>
      obtain ⟨rfl, rfl⟩ := hrel
      go_wp2
      go_ret
      exact ⟨rfl, 0, rfl⟩
  · rcases h1.lies with hl | ⟨b1, o1, rfl, hb1, hk1⟩
    · exact absurd hl h0
    rcases h2.lies with hl | ⟨b2, o2, rfl, hb2, hk2⟩
    · exact absurd hl h0
    have H1 := Lib.hid hk1
    have H2 := Lib.hid hk2
    clear hk1 hk2 h1 h2 h0
    go_enter Tryd.func134, Tryd.ntmps134
    go_wp2
    go_loopw [5] (fun i wr => ∃ k n : Nat, k ≤ xs.length ∧ i = .int .i64 k ∧ wr = w.drewN n) (fun i _ => xs.length - (intOf i).toNat)
    case atStart => exact ⟨0, 0, Nat.zero_le _, rfl, rfl⟩
    case round =>
      obtain ⟨k, n, hk, rfl, rfl⟩ := hrel
      by_cases hlt : k < xs.length
      · have hk1 := H1.out k hlt
        have hk2 := H2.out k hlt
        have hlt' : (k : Int) < (xs.length : Int) := by omega
        go_wp2
        go_quiet (fail)
        go_wp2
        go_roundw
        case rel => exact ⟨k + 1, _, by omega, by go_num, rfl⟩
        case measure => simp [intOf]; omega
      · obtain rfl : k = xs.length := by omega
        go_wp2
        go_ret
        exact ⟨rfl, n, rfl⟩

/-- What marking a row does: its numbers are the marks; of the rest nothing has turned. -/
def MarkPost (T : TypeId) (k : IntKind) (lo : Nat) (a : Option Addr) (c m n : Nat) (w : World) (e : Ending) (w' : World) : Prop :=
  e = .returned (.int .i64 ((m + n : Nat) : Int)) ∧ w'.ownsRow lo T 1 (.slice a n c) n ((marks m n).map (Value.int k)) ∧ w.grownBy w' (Value.slice a n c).ownBlock

set_option maxHeartbeats 400000 in
theorem markBytes_any (a : Option Addr) (c m : Nat) (xs : List Int) (lo : Nat) (w : World) (hr : w.ownsRow lo 5 1 (.slice a xs.length c) xs.length (xs.map (Value.int .u8))) (hlen : xs.length ≤ 1048576) (hm : m ≤ 1073741824) :
    Calls Tryd.prog 103 #[.slice a xs.length c, .int .i64 (m : Int)] w (MarkPost 5 .u8 lo a c m xs.length w) := by
  obtain ⟨_, hN⟩ := Nums.of_own hr
  have hc1 := hN.cap
  have hc2 := hN.big
  clear hN
  by_cases h0 : xs = []
  · subst h0
    have HR := Lib.hid (show MarkPost 5 .u8 lo a c m 0 w (.returned (.int .i64 (m : Int))) w from ⟨by simp, hr, World.grownBy.refl _ _⟩)
    clear hr
    go_enter Tryd.func103, Tryd.ntmps103
    go_wp2
    go_loopw [1, 5] (fun k i wr => i = .int .i64 0 ∧ k = .int .i64 (m : Int) ∧ wr = w) (fun _ i _ => 0 - (intOf i).toNat)
    case atStart => exact ⟨rfl, rfl, rfl⟩
    case round =>
      obtain ⟨rfl, rfl, rfl⟩ := hrel
      go_wp2
      go_ret
      exact HR.out
  · obtain ⟨g, rfl⟩ : ∃ g, a = some ⟨g, 0, none⟩ := by
      rcases hr.2 with ⟨hv, h1⟩ | ⟨g, cap, cur, hv, _⟩
      · exact absurd (List.length_eq_zero_iff.1 h1) h0
      · simp only [Value.slice.injEq] at hv
        exact ⟨g, hv.1⟩
    have HR := Lib.hid hr
    clear hr
    go_enter Tryd.func103, Tryd.ntmps103
    go_wp2
    go_loopw [1, 5] (fun k i wr => ∃ j : Nat, j ≤ xs.length ∧ i = .int .i64 j ∧ k = .int .i64 ((m + j : Nat) : Int) ∧ wr.ownsRow lo 5 1 (.slice (some ⟨g, 0, none⟩) xs.length c) xs.length ((markTo m xs j).map (Value.int .u8)) ∧ w.grownBy wr (some g)) (fun _ i _ => xs.length - (intOf i).toNat)
    case atStart => exact ⟨0, Nat.zero_le _, rfl, by simp, by rw [markTo_zero]; exact HR.out, World.grownBy.refl _ _⟩
    case round =>
      obtain ⟨j, hj, rfl, rfl, hown, hg⟩ := hrel
      by_cases hlt : j < xs.length
      · have hcell : wr.cell? ⟨g, j, none⟩ = some (.int .u8 (el (markTo m xs j) j)) := by rw [hown.cellAt j (by omega)]; exact el_cell _ _ _ (by rw [markTo_len _ _ _ hj]; exact hlt)
        have hfz := hown.frozenAt j
        have hst := hown.stored j (.int .u8 (((m : Int) + (j : Int)) % 256))
        rw [← List.map_set, markTo_step _ _ _ hlt] at hst
        have HS := Lib.hid hst
        have HG := Lib.hid hg
        clear hst hown hg
        go_wp2
        go_roundw
        case rel => exact ⟨j + 1, by omega, by go_num, by go_num, HS.out.1, grown_trans HG.out HS.out.2⟩
        case measure => simp [intOf]; omega
      · obtain rfl : j = xs.length := by omega
        rw [markTo_all] at hown
        have HP : Hid (MarkPost 5 .u8 lo (some ⟨g, 0, none⟩) c m xs.length w (.returned (.int .i64 ((m + xs.length : Nat) : Int))) wr) := ⟨rfl, hown, hg⟩
        clear hown hg
        go_wp2
        go_ret
        exact HP.out

set_option maxHeartbeats 400000 in
theorem heldBytes_any (a : Option Addr) (c m n : Nat) (hi : Nat) (w : World) (hr : Nums .u8 w hi a c (marks m n)) (hlen : n ≤ 1048576) (hm : m ≤ 1073741824) :
    Calls Tryd.prog 104 #[.slice a n c, .int .i64 (m : Int)] w fun e w' => e = .returned (.int .i64 ((m + n : Nat) : Int)) ∧ w = w' := by
  have hc1 := hr.cap
  have hc2 := hr.big
  rw [marks_len] at hc1
  by_cases h0 : n = 0
  · subst h0
    clear hr
    go_enter Tryd.func104, Tryd.ntmps104
    go_wp2
    go_loop [1, 5] (fun k i => i = .int .i64 0 ∧ k = .int .i64 (m : Int)) (fun _ i => 0 - (intOf i).toNat)
    case atStart => exact ⟨rfl, rfl⟩
    case round =>
      obtain ⟨rfl, rfl⟩ := hrel
      go_wp2
      go_ret
      exact ⟨rfl, rfl⟩
  · rcases hr.lies with hl | ⟨b, off, rfl, hb, hc⟩
    · have := congrArg List.length hl
      rw [marks_len] at this
      exact absurd this h0
    rw [marks_len] at hc
    have HC := Lib.hid hc
    clear hc hr h0
    go_enter Tryd.func104, Tryd.ntmps104
    go_wp2
    go_loop [1, 5] (fun k i => ∃ j : Nat, j ≤ n ∧ i = .int .i64 j ∧ k = .int .i64 ((m + j : Nat) : Int)) (fun _ i => n - (intOf i).toNat)
    case atStart => exact ⟨0, Nat.zero_le _, rfl, by simp⟩
    case round =>
      obtain ⟨j, hj, rfl, rfl⟩ := hrel
      by_cases hlt : j < n
      · have hcell := HC.out j hlt
        rw [marks_el _ _ _ hlt] at hcell
        have hd : ((((m : Int) + (j : Int)) % 256) != (((m : Int) + (j : Int)) % 256)) = false := by simp
        go_wp2
        go_round
        case rel => exact ⟨j + 1, by omega, by go_num, by go_num⟩
        case measure => simp [intOf]; omega
      · obtain rfl : j = n := by omega
        go_wp2
        go_ret
        exact ⟨rfl, rfl⟩

theorem szBytes_any (a : Option Addr) (n c : Nat) (left : Int) (w : World) (hl0 : 0 ≤ left) (hl1 : left ≤ 1048576) (hn : n ≤ 9223372036854775807) :
    Calls Tryd.prog 128 #[.slice a n c, .int .i64 left] w fun e w' => e = .returned (.int .i64 (if left - (n : Int) < 0 then -1 else left - (n : Int))) ∧ w = w' := by
  by_cases h : left - (n : Int) < 0
  · rw [if_pos h]
    go_enter Tryd.func128, Tryd.ntmps128
    go_wp2
    go_ret
    exact ⟨rfl, rfl⟩
  · rw [if_neg h]
    go_enter Tryd.func128, Tryd.ntmps128
    go_wp2
    go_ret
    exact ⟨rfl, rfl⟩

end Go.Proofs.YtddanfpiecgcgaaDoor
