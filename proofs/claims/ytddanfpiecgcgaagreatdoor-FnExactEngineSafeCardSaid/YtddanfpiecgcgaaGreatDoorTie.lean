/-
  DERIVED. GIVEN WITH THE SEED: THE PROGRAM's TIES (one call each: nine closed facts by the kernel) AND EACH ROW's TIE, after the 31st guide's Derived/Test/Toyas{Tie, Card}.lean. No idea stands in it: it is a product of the set-up. Laid BY PROGRAM, IN A SANDBOX (cutbox-door.mjs). By AI agents, Wed Nov 11 2026. No macro, syntax, notation, axiom, sorry.
-/
import Derived.Test.YtddanfpiecgcgaaGreatDoorRows
import Derived.LaidByTextLater
import Derived.SevenTiedAt
import Derived.LaidSub
import Derived.LaidOnce
namespace Go.Proofs.YtddanfpiecgcgaaGreatDoor
open Go
set_option maxRecDepth 100000
theorem seatTie1 : Tryz.prog.laidByTextLater [("loop.example/g00728/impl.leastFields", Rows.laid_loop_example_g00728_impl_leastFields), ("loop.example/g00728/impl.mostFields", Rows.laid_loop_example_g00728_impl_mostFields)] [.data, .data] true :=
  Program.laidByTextLater_by_one 19 8 10 (by kernel_rfl) (by kernel_rfl) (by kernel_rfl) (by kernel_rfl) (by kernel_rfl) (by kernel_rfl) (fun _ _ => by kernel_rfl)
theorem noOwnUnsafe : Tryz.pinned.checked.prog.headLifts.contains "ownunsafe" = false := by kernel_rfl
theorem tie : Tryz.prog.laidByTextLater [("loop.example/g00728/impl.leastFields", Rows.laid_loop_example_g00728_impl_leastFields), ("loop.example/g00728/impl.mostFields", Rows.laid_loop_example_g00728_impl_mostFields)] [.data, .data] true :=
  Program.laidByTextLater.sub seatTie1 ["loop.example/g00728/impl.leastFields", "loop.example/g00728/impl.mostFields"] (by kernel_rfl) (by kernel_rfl)
theorem fnExactEngineSafe_row_tie : Rows.fnExactEngineSafeRow.laidByTextAt .later Tryz.pinned [.data, .data] true :=
  OpenClaim.laidByTextAt_later rfl rfl tie noOwnUnsafe
theorem fnExactEngineSafeUpto_row_tie : Rows.fnExactEngineSafeUptoRow.laidByTextAt .later Tryz.pinned [.data, .data] true :=
  OpenClaim.laidByTextAt_later rfl rfl tie noOwnUnsafe
end Go.Proofs.YtddanfpiecgcgaaGreatDoor
