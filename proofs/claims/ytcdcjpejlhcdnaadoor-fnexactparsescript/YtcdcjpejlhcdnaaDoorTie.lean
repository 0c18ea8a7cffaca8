/-
  DERIVED. GIVEN WITH THE SEED: THE PROGRAM's TIES (one call each: nine closed facts by the kernel) AND EACH ROW's TIE, after the 31st guide's Derived/Test/Toyas{Tie, Card}.lean. No idea stands in it: it is a product of the set-up. Laid BY PROGRAM, IN A SANDBOX (cutbox-door.mjs). By AI agents, Wed Nov 11 2026. No macro, syntax, notation, axiom, sorry.
-/
import Derived.Test.YtcdcjpejlhcdnaaDoorRows
import Derived.LaidByTextLater
import Derived.SevenTiedAt
import Derived.LaidSub
import Derived.LaidOnce
namespace Go.Proofs.YtcdcjpejlhcdnaaDoor
open Go
set_option maxRecDepth 100000
theorem seatTie1 : Tryd.prog.laidByTextLater [("math/bits.deBruijn32tab", Rows.laid_math_bits_deBruijn32tab), ("math/bits.deBruijn64tab", Rows.laid_math_bits_deBruijn64tab), ("internal/strconv.uint64pow10", Rows.laid_internal_strconv_uint64pow10), ("errors.errorType", Rows.laid_errors_errorType), ("strconv.ErrRange", Rows.laid_strconv_ErrRange), ("strconv.ErrSyntax", Rows.laid_strconv_ErrSyntax), ("loop.example/s0063/impl.errTooLong", Rows.laid_loop_example_s0063_impl_errTooLong), ("loop.example/s0063/impl.errNoSignals", Rows.laid_loop_example_s0063_impl_errNoSignals), ("loop.example/s0063/impl.errKeyword", Rows.laid_loop_example_s0063_impl_errKeyword), ("loop.example/s0063/impl.errField", Rows.laid_loop_example_s0063_impl_errField), ("loop.example/s0063/impl.errFew", Rows.laid_loop_example_s0063_impl_errFew), ("loop.example/s0063/impl.errMany", Rows.laid_loop_example_s0063_impl_errMany), ("loop.example/s0063/impl.errPlace", Rows.laid_loop_example_s0063_impl_errPlace)] [.data, .data, .data, .handle, .sentinel, .sentinel, .sentinel, .sentinel, .sentinel, .sentinel, .sentinel, .sentinel, .sentinel] true :=
  Program.laidByTextLater_by_one 202 8 65 (by kernel_rfl) (by kernel_rfl) (by kernel_rfl) (by kernel_rfl) (by kernel_rfl) (by kernel_rfl) (fun _ _ => by kernel_rfl)
theorem noOwnUnsafe : Tryd.pinned.checked.prog.headLifts.contains "ownunsafe" = false := by kernel_rfl
theorem tie : Tryd.prog.laidByTextLater [("math/bits.deBruijn32tab", Rows.laid_math_bits_deBruijn32tab), ("math/bits.deBruijn64tab", Rows.laid_math_bits_deBruijn64tab), ("internal/strconv.uint64pow10", Rows.laid_internal_strconv_uint64pow10), ("errors.errorType", Rows.laid_errors_errorType), ("strconv.ErrRange", Rows.laid_strconv_ErrRange), ("strconv.ErrSyntax", Rows.laid_strconv_ErrSyntax), ("loop.example/s0063/impl.errTooLong", Rows.laid_loop_example_s0063_impl_errTooLong), ("loop.example/s0063/impl.errNoSignals", Rows.laid_loop_example_s0063_impl_errNoSignals), ("loop.example/s0063/impl.errKeyword", Rows.laid_loop_example_s0063_impl_errKeyword), ("loop.example/s0063/impl.errField", Rows.laid_loop_example_s0063_impl_errField), ("loop.example/s0063/impl.errFew", Rows.laid_loop_example_s0063_impl_errFew), ("loop.example/s0063/impl.errMany", Rows.laid_loop_example_s0063_impl_errMany), ("loop.example/s0063/impl.errPlace", Rows.laid_loop_example_s0063_impl_errPlace)] [.data, .data, .data, .handle, .sentinel, .sentinel, .sentinel, .sentinel, .sentinel, .sentinel, .sentinel, .sentinel, .sentinel] true :=
  Program.laidByTextLater.sub seatTie1 ["math/bits.deBruijn32tab", "math/bits.deBruijn64tab", "internal/strconv.uint64pow10", "errors.errorType", "strconv.ErrRange", "strconv.ErrSyntax", "loop.example/s0063/impl.errTooLong", "loop.example/s0063/impl.errNoSignals", "loop.example/s0063/impl.errKeyword", "loop.example/s0063/impl.errField", "loop.example/s0063/impl.errFew", "loop.example/s0063/impl.errMany", "loop.example/s0063/impl.errPlace"] (by kernel_rfl) (by kernel_rfl)
theorem fnExactParseScript_row_tie : Rows.fnExactParseScriptRow.laidByTextAt .later Tryd.pinned [.data, .data, .data, .handle, .sentinel, .sentinel, .sentinel, .sentinel, .sentinel, .sentinel, .sentinel, .sentinel, .sentinel] true :=
  OpenClaim.laidByTextAt_later rfl rfl tie noOwnUnsafe
theorem fnExactParseScriptUpto_row_tie : Rows.fnExactParseScriptUptoRow.laidByTextAt .later Tryd.pinned [.data, .data, .data, .handle, .sentinel, .sentinel, .sentinel, .sentinel, .sentinel, .sentinel, .sentinel, .sentinel, .sentinel] true :=
  OpenClaim.laidByTextAt_later rfl rfl tie noOwnUnsafe
end Go.Proofs.YtcdcjpejlhcdnaaDoor
