/-
  DERIVED. GIVEN WITH THE SEED: THE PROGRAM's TIES (one call each: nine closed facts by the kernel) AND EACH ROW's TIE, after the 31st guide's Derived/Test/Toyas{Tie, Card}.lean. No idea stands in it: it is a product of the set-up. Laid BY PROGRAM, IN A SANDBOX (cutbox-door.mjs). By AI agents, Wed Nov 11 2026. No macro, syntax, notation, axiom, sorry.
-/
import Derived.Test.YtnfhlfbkdhpacaaGreatDoorRows
import Derived.LaidByTextLater
import Derived.SevenTiedAt
import Derived.LaidSub
import Derived.LaidOnce
namespace Go.Proofs.YtnfhlfbkdhpacaaGreatDoor
open Go
set_option maxRecDepth 100000
theorem seatTie1 : Tryz.prog.laidByTextLater [("loop.example/g00728/impl.errShort", Rows.laid_loop_example_g00728_impl_errShort), ("loop.example/g00728/impl.errBent", Rows.laid_loop_example_g00728_impl_errBent), ("loop.example/g00728/impl.leastFields", Rows.laid_loop_example_g00728_impl_leastFields), ("loop.example/g00728/impl.mostFields", Rows.laid_loop_example_g00728_impl_mostFields), ("loop.example/g00728/impl.errNoRound", Rows.laid_loop_example_g00728_impl_errNoRound)] [.sentinel, .sentinel, .data, .data, .sentinel] true :=
  Program.laidByTextLater_by_one 76 8 10 (by kernel_rfl) (by kernel_rfl) (by kernel_rfl) (by kernel_rfl) (by kernel_rfl) (by kernel_rfl) (fun _ _ => by kernel_rfl)
theorem noOwnUnsafe : Tryz.pinned.checked.prog.headLifts.contains "ownunsafe" = false := by kernel_rfl
theorem tie : Tryz.prog.laidByTextLater [("loop.example/g00728/impl.leastFields", Rows.laid_loop_example_g00728_impl_leastFields), ("loop.example/g00728/impl.mostFields", Rows.laid_loop_example_g00728_impl_mostFields), ("loop.example/g00728/impl.errNoRound", Rows.laid_loop_example_g00728_impl_errNoRound)] [.data, .data, .sentinel] true :=
  Program.laidByTextLater.sub seatTie1 ["loop.example/g00728/impl.leastFields", "loop.example/g00728/impl.mostFields", "loop.example/g00728/impl.errNoRound"] (by kernel_rfl) (by kernel_rfl)
theorem fnExactRoundOps_row_tie : Rows.fnExactRoundOpsRow.laidByTextAt .later Tryz.pinned [.data, .data, .sentinel] true :=
  OpenClaim.laidByTextAt_later rfl rfl tie noOwnUnsafe
theorem tie2 : Tryz.prog.laidByTextLater [("loop.example/g00728/impl.errShort", Rows.laid_loop_example_g00728_impl_errShort), ("loop.example/g00728/impl.errBent", Rows.laid_loop_example_g00728_impl_errBent)] [.sentinel, .sentinel] true :=
  Program.laidByTextLater.sub seatTie1 ["loop.example/g00728/impl.errShort", "loop.example/g00728/impl.errBent"] (by kernel_rfl) (by kernel_rfl)
theorem fnExactFramesLeft_row_tie : Rows.fnExactFramesLeftRow.laidByTextAt .later Tryz.pinned [.sentinel, .sentinel] true :=
  OpenClaim.laidByTextAt_later rfl rfl tie2 noOwnUnsafe
theorem tie3 : Tryz.prog.laidByTextLater [("loop.example/g00728/impl.errShort", Rows.laid_loop_example_g00728_impl_errShort), ("loop.example/g00728/impl.errBent", Rows.laid_loop_example_g00728_impl_errBent), ("loop.example/g00728/impl.leastFields", Rows.laid_loop_example_g00728_impl_leastFields), ("loop.example/g00728/impl.mostFields", Rows.laid_loop_example_g00728_impl_mostFields)] [.sentinel, .sentinel, .data, .data] true :=
  Program.laidByTextLater.sub seatTie1 ["loop.example/g00728/impl.errShort", "loop.example/g00728/impl.errBent", "loop.example/g00728/impl.leastFields", "loop.example/g00728/impl.mostFields"] (by kernel_rfl) (by kernel_rfl)
theorem fnExactDrainBound_row_tie : Rows.fnExactDrainBoundRow.laidByTextAt .later Tryz.pinned [.sentinel, .sentinel, .data, .data] true :=
  OpenClaim.laidByTextAt_later rfl rfl tie3 noOwnUnsafe
theorem fnExactAtRest_row_tie : Rows.fnExactAtRestRow.laidByTextAt .later Tryz.pinned [.sentinel, .sentinel, .data, .data] true :=
  OpenClaim.laidByTextAt_later rfl rfl tie3 noOwnUnsafe
theorem tie4 : Tryz.prog.laidByTextLater [("loop.example/g00728/impl.errShort", Rows.laid_loop_example_g00728_impl_errShort), ("loop.example/g00728/impl.errBent", Rows.laid_loop_example_g00728_impl_errBent), ("loop.example/g00728/impl.leastFields", Rows.laid_loop_example_g00728_impl_leastFields), ("loop.example/g00728/impl.mostFields", Rows.laid_loop_example_g00728_impl_mostFields), ("loop.example/g00728/impl.errNoRound", Rows.laid_loop_example_g00728_impl_errNoRound)] [.sentinel, .sentinel, .data, .data, .sentinel] true :=
  Program.laidByTextLater.sub seatTie1 ["loop.example/g00728/impl.errShort", "loop.example/g00728/impl.errBent", "loop.example/g00728/impl.leastFields", "loop.example/g00728/impl.mostFields", "loop.example/g00728/impl.errNoRound"] (by kernel_rfl) (by kernel_rfl)
theorem fnExactStuckAt_row_tie : Rows.fnExactStuckAtRow.laidByTextAt .later Tryz.pinned [.sentinel, .sentinel, .data, .data, .sentinel] true :=
  OpenClaim.laidByTextAt_later rfl rfl tie4 noOwnUnsafe
theorem fnExactRoundOpsUpto_row_tie : Rows.fnExactRoundOpsUptoRow.laidByTextAt .later Tryz.pinned [.data, .data, .sentinel] true :=
  OpenClaim.laidByTextAt_later rfl rfl tie noOwnUnsafe
theorem fnExactFramesLeftUpto_row_tie : Rows.fnExactFramesLeftUptoRow.laidByTextAt .later Tryz.pinned [.sentinel, .sentinel] true :=
  OpenClaim.laidByTextAt_later rfl rfl tie2 noOwnUnsafe
theorem fnExactDrainBoundUpto_row_tie : Rows.fnExactDrainBoundUptoRow.laidByTextAt .later Tryz.pinned [.sentinel, .sentinel, .data, .data] true :=
  OpenClaim.laidByTextAt_later rfl rfl tie3 noOwnUnsafe
theorem fnExactStuckAtUpto_row_tie : Rows.fnExactStuckAtUptoRow.laidByTextAt .later Tryz.pinned [.sentinel, .sentinel, .data, .data, .sentinel] true :=
  OpenClaim.laidByTextAt_later rfl rfl tie4 noOwnUnsafe
theorem fnExactAtRestUpto_row_tie : Rows.fnExactAtRestUptoRow.laidByTextAt .later Tryz.pinned [.sentinel, .sentinel, .data, .data] true :=
  OpenClaim.laidByTextAt_later rfl rfl tie3 noOwnUnsafe
end Go.Proofs.YtnfhlfbkdhpacaaGreatDoor
