/- slices.SortStableFunc over aggs of the call's own, by falling counts. (made by tools/mkstabc.py) -/
import Derived.Test.YtchbmnpajnlijaaStab9C
import Derived.Test.YtchbmnpajnlijaaAppA
import Derived.Deep.RegionHeld3
import Derived.StillTailTactics
namespace Go.Proofs.Ytchbmnpajnlijaa.Cnt
open Go.RowKit Stab
theorem sortNone_x (a : Option Addr) (c : Nat) (w : World) : Calls Try.prog 83 #[.slice a 0 c, .func (.func 84) #[] #[]] w fun e w' => e = .returned (.tuple #[]) ∧ w = w' := by
  have I : ∀ W, Calls Try.prog 134 #[.slice a 0 c, .int .i64 0, .int .i64 0, .func (.func 84) #[] #[]] W fun e w' => e = .returned (.tuple #[]) ∧ W = w' := fun W => by
    go_enter Try.func134, Try.ntmps134
    go_wp2
    refine wp_loop_rounds 1 ?_
    rw [rounds_succ]
    go_wp2
    go_end0
    exact ⟨rfl, rfl⟩
  have S : ∀ W, Calls Try.prog 110 #[.slice a 0 c, .int .i64 0, .func (.func 84) #[] #[]] W fun e w' => e = .returned (.tuple #[]) ∧ W = w' := fun W => by
    go_enter Try.func110, Try.ntmps110
    go_wp2
    refine wp_loop_rounds 1 ?_
    rw [rounds_succ]
    go_wp2_with fail
    refine (I _).mono ?_
    rintro e w' ⟨rfl, rfl⟩
    go_wp2
    refine wp_loop_rounds 1 ?_
    rw [rounds_succ]
    go_wp2
    go_end0
    exact ⟨rfl, rfl⟩
  go_enter Try.func83, Try.ntmps83
  go_wp2_with fail
  refine (S _).mono ?_
  rintro e w' ⟨rfl, rfl⟩
  go_wp2
  go_end0
  exact ⟨rfl, rfl⟩
/-- A row of the call's own is sorted. -/
theorem sort_any (a : Option Addr) (n c lo : Nat) (X : List Ag) (w : World) (h : w.ownsRow lo 86 6 (.slice a n c) n (flatA X)) (hlo : lo ≤ w.heap.size) (hbig : n ≤ 4194304) :
    Calls Try.prog 83 #[.slice a n c, .func (.func 84) #[] #[]] w fun e w' => e = .returned (.tuple #[]) ∧ ∃ Z, StS aheadA Z X ∧ w'.ownsRow lo 86 6 (.slice a n c) n (flatA Z) ∧ Below lo w w' := by
  have hn := ownR_len aC_len (by omega) h
  rcases Nat.eq_zero_or_pos n with h0 | h0
  · subst h0
    refine (sortNone_x a c w).mono ?_
    rintro e w' ⟨rfl, rfl⟩
    have : X = [] := List.length_eq_zero_iff.1 hn.symm
    subst this
    exact ⟨rfl, [], StS.self List.Pairwise.nil, h, Below.refl _ _⟩
  · obtain ⟨g, rfl, hg, hgl⟩ := ownR_block h h0
    refine (sortStable_x g c lo n X w h hbig).mono ?_
    rintro e w' ⟨rfl, Z, hZ, hr⟩
    exact ⟨rfl, Z, hZ, hr.own, below_grown_own hr.grown hg hlo⟩
end Go.Proofs.Ytchbmnpajnlijaa.Cnt
