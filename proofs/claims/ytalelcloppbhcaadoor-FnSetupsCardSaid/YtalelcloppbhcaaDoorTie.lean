/-
  DERIVED. GIVEN WITH THE SEED: THE PROGRAM's TIES (one call each: nine closed facts by the kernel) AND EACH ROW's TIE, after the 31st guide's Derived/Test/Toyas{Tie, Card}.lean. No idea stands in it: it is a product of the set-up. Laid BY PROGRAM, IN A SANDBOX (cutbox-door.mjs). By AI agents, Wed Nov 11 2026. No macro, syntax, notation, axiom, sorry.
-/
import Derived.Test.YtalelcloppbhcaaDoorRows
import Derived.LaidByTextLater
import Derived.SevenTiedAt
import Derived.LaidSub
import Derived.LaidOnce
namespace Go.Proofs.YtalelcloppbhcaaDoor
open Go
set_option maxRecDepth 100000
theorem seatTie1 : Tryd.prog.laidByTextLater [("math/bits.deBruijn32tab", Rows.laid_math_bits_deBruijn32tab), ("math/bits.deBruijn64tab", Rows.laid_math_bits_deBruijn64tab), ("internal/strconv.uint64pow10", Rows.laid_internal_strconv_uint64pow10), ("loop.example/g00728/impl.errShort", Rows.laid_loop_example_g00728_impl_errShort), ("loop.example/g00728/impl.errBent", Rows.laid_loop_example_g00728_impl_errBent), ("loop.example/g00728/impl.leastFields", Rows.laid_loop_example_g00728_impl_leastFields), ("loop.example/g00728/impl.mostFields", Rows.laid_loop_example_g00728_impl_mostFields)] [.data, .data, .data, .sentinel, .sentinel, .data, .data] true :=
  Program.laidByTextLater_by_one 72 8 65 (by kernel_rfl) (by kernel_rfl) (by kernel_rfl) (by kernel_rfl) (by kernel_rfl) (by kernel_rfl) (fun _ _ => by kernel_rfl)
theorem noOwnUnsafe : Tryd.pinned.checked.prog.headLifts.contains "ownunsafe" = false := by kernel_rfl
theorem tie : Tryd.prog.laidByTextLater [("math/bits.deBruijn32tab", Rows.laid_math_bits_deBruijn32tab), ("math/bits.deBruijn64tab", Rows.laid_math_bits_deBruijn64tab), ("internal/strconv.uint64pow10", Rows.laid_internal_strconv_uint64pow10), ("loop.example/g00728/impl.leastFields", Rows.laid_loop_example_g00728_impl_leastFields), ("loop.example/g00728/impl.mostFields", Rows.laid_loop_example_g00728_impl_mostFields)] [.data, .data, .data, .data, .data] true :=
  Program.laidByTextLater.sub seatTie1 ["math/bits.deBruijn32tab", "math/bits.deBruijn64tab", "internal/strconv.uint64pow10", "loop.example/g00728/impl.leastFields", "loop.example/g00728/impl.mostFields"] (by kernel_rfl) (by kernel_rfl)
theorem fnSetups_row_tie : Rows.fnSetupsRow.laidByTextAt .later Tryd.pinned [.data, .data, .data, .data, .data] true :=
  OpenClaim.laidByTextAt_later rfl rfl tie noOwnUnsafe
theorem tie2 : Tryd.prog.laidByTextLater [("loop.example/g00728/impl.leastFields", Rows.laid_loop_example_g00728_impl_leastFields), ("loop.example/g00728/impl.mostFields", Rows.laid_loop_example_g00728_impl_mostFields)] [.data, .data] true :=
  Program.laidByTextLater.sub seatTie1 ["loop.example/g00728/impl.leastFields", "loop.example/g00728/impl.mostFields"] (by kernel_rfl) (by kernel_rfl)
theorem fnExactNewEngine_row_tie : Rows.fnExactNewEngineRow.laidByTextAt .later Tryd.pinned [.data, .data] true :=
  OpenClaim.laidByTextAt_later rfl rfl tie2 noOwnUnsafe
theorem tie3 : Tryd.prog.laidByTextLater [("loop.example/g00728/impl.errShort", Rows.laid_loop_example_g00728_impl_errShort), ("loop.example/g00728/impl.errBent", Rows.laid_loop_example_g00728_impl_errBent)] [.sentinel, .sentinel] true :=
  Program.laidByTextLater.sub seatTie1 ["loop.example/g00728/impl.errShort", "loop.example/g00728/impl.errBent"] (by kernel_rfl) (by kernel_rfl)
theorem fnExactEventsIn_row_tie : Rows.fnExactEventsInRow.laidByTextAt .later Tryd.pinned [.sentinel, .sentinel] true :=
  OpenClaim.laidByTextAt_later rfl rfl tie3 noOwnUnsafe
theorem fnSetupsUpto_row_tie : Rows.fnSetupsUptoRow.laidByTextAt .later Tryd.pinned [.data, .data, .data, .data, .data] true :=
  OpenClaim.laidByTextAt_later rfl rfl tie noOwnUnsafe
theorem fnExactNewEngineUpto_row_tie : Rows.fnExactNewEngineUptoRow.laidByTextAt .later Tryd.pinned [.data, .data] true :=
  OpenClaim.laidByTextAt_later rfl rfl tie2 noOwnUnsafe
theorem fnExactEventsInUpto_row_tie : Rows.fnExactEventsInUptoRow.laidByTextAt .later Tryd.pinned [.sentinel, .sentinel] true :=
  OpenClaim.laidByTextAt_later rfl rfl tie3 noOwnUnsafe
end Go.Proofs.YtalelcloppbhcaaDoor
