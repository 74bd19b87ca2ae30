/- The library's sort over lags: slices.Sort, of a row and of none; what it hands back, in plain words. -/
import Derived.Test.YtcjmigjkjepkdaaSortPdq
namespace Go.Proofs.Ytcjmigjkjepkdaa
open Go.RowKit

set_option maxRecDepth 100000 in
theorem sort_any {L : Nat → Nat} {lt : Nat → Nat → Bool} (hL : LessOk L lt) (swo : Sort.SWO lt) (g off cap : Nat) (d : Array Nat) (w : World) (hH : Sort.Holds (fV L) w g off d) (hg : g < w.heap.size) (hsz : d.size ≤ 1048576) :
    Calls Try.prog 53 #[.slice (some ⟨g, off, none⟩) d.size cap] w fun e w' => e = .returned (.tuple #[]) ∧ SG L w g off d (Sort.sort lt d) w' := by
  have hb : Sort.bitsLen d.size ≤ 21 := (Sort.bitsLen_le_iff d.size 21).2 (by omega)
  have hbl : Lib.bitLen d.size = Sort.bitsLen d.size := by
    by_cases h0 : d.size = 0
    · rw [h0]; rfl
    · exact bitLen_log d.size (by omega)
  have HL := Lib.hid (fun W => Try.bits_Len (d.size : Int) W (by omega) (by omega))
  have HP := Lib.hid (pdq_any hL swo (d.size + 1) g off cap 0 d.size (Sort.bitsLen d.size) d w (by omega) hH hg (by omega) (Nat.le_refl _) hsz (by omega) (Or.inl rfl))
  have HB := Lib.hid hbl

  clear hH hL hbl
  go_enter Try.func53, Try.ntmps53
  have HX : Hid (∀ W, Calls Try.prog 64 #[.int .u64 d.size] W fun e w' => e = .returned (.int .i64 (Sort.bitsLen d.size)) ∧ w' = W) := Lib.hid (fun W => by rw [← HB.out]; exact (HL.out W))
  go_wp2_with fail
  refine (HX.out _).mono ?_
  rintro e w1 ⟨rfl, rfl⟩
  go_wp2_with fail
  refine HP.out.mono ?_
  rintro e w2 ⟨rfl, hs⟩
  have HS := Lib.hid hs
  clear hs
  go_wp2
  exact bodyPost_end (v := .tuple #[]) (by simp [results, Try.results53, go_sem]) rfl ⟨rfl, HS.out⟩
/-! Of no row at all. -/
set_option maxRecDepth 100000 in
theorem insSort_none (w : World) : Calls Try.prog 69 #[.slice none 0 0, .int .i64 0, .int .i64 0] w fun e w' => e = .returned (.tuple #[]) ∧ w' = w := by
  go_enter Try.func69, Try.ntmps69
  go_wp2
  refine wp_loop_rounds 1 ?_
  rw [rounds_succ]
  go_wp2
  exact bodyPost_end (v := .tuple #[]) (by simp [results, Try.results69, go_sem]) rfl ⟨rfl, rfl⟩
set_option maxRecDepth 100000 in
theorem pdq_none (l : Nat) (w : World) : Calls Try.prog 63 #[.slice none 0 0, .int .i64 0, .int .i64 0, .int .i64 l] w fun e w' => e = .returned (.tuple #[]) ∧ w' = w := by
  have HI := Lib.hid insSort_none
  go_enter Try.func63, Try.ntmps63
  go_wp2
  refine wp_loop_rounds 1 ?_
  rw [rounds_succ]
  go_wp2_with fail
  refine (HI.out _).mono ?_
  rintro e w1 ⟨rfl, rfl⟩
  go_wp2_with fail
  exact bodyPost_ret (v := .tuple #[]) (by simp [results, Try.results63, go_sem]) rfl ⟨rfl, rfl⟩
set_option maxRecDepth 100000 in
theorem sort_none (w : World) : Calls Try.prog 53 #[.slice none 0 0] w fun e w' => e = .returned (.tuple #[]) ∧ w' = w := by
  have HL : Hid (∀ W, Calls Try.prog 64 #[.int .u64 0] W fun e w' => e = .returned (.int .i64 (Lib.bitLen 0 : Nat)) ∧ w' = W) := Lib.hid (fun W => Try.bits_Len 0 W (by omega) (by omega))
  have HP := Lib.hid pdq_none
  go_enter Try.func53, Try.ntmps53
  go_wp2_with fail
  refine (HL.out _).mono ?_
  rintro e w1 ⟨rfl, rfl⟩
  generalize Lib.bitLen 0 = l
  go_wp2_with fail
  refine (HP.out _ _).mono ?_
  rintro e w2 ⟨rfl, rfl⟩
  go_wp2
  exact bodyPost_end (v := .tuple #[]) (by simp [results, Try.results53, go_sem]) rfl ⟨rfl, rfl⟩
end Go.Proofs.Ytcjmigjkjepkdaa
