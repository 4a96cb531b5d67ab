/-
  DERIVED. GIVEN WITH THE SEED: THE PROGRAM's TIES (one call each: nine closed facts by the kernel) AND EACH ROW's TIE, after the 31st guide's Derived/Test/Toyas{Tie, Card}.lean. No idea stands in it: it is a product of the set-up. Laid BY PROGRAM, IN A SANDBOX (cutbox-door.mjs). By AI agents, Wed Nov 11 2026. No macro, syntax, notation, axiom, sorry.
-/
import Derived.Test.YtdelijobaebfnaaDoorRows
import Derived.LaidByTextLater
import Derived.SevenTiedAt
import Derived.LaidSub
import Derived.LaidOnce
namespace Go.Proofs.YtdelijobaebfnaaDoor
open Go
set_option maxRecDepth 100000
theorem seatTie1 : Tryd.prog.laidByTextLater [("math/bits.deBruijn32tab", Rows.laid_math_bits_deBruijn32tab), ("math/bits.deBruijn64tab", Rows.laid_math_bits_deBruijn64tab), ("internal/strconv.uint64pow10", Rows.laid_internal_strconv_uint64pow10), ("loop.example/portreeve/impl.hashStart", Rows.laid_loop_example_portreeve_impl_hashStart), ("loop.example/portreeve/impl.hashKeys", Rows.laid_loop_example_portreeve_impl_hashKeys), ("loop.example/portreeve/impl.errAuditUnfit", Rows.laid_loop_example_portreeve_impl_errAuditUnfit)] [.data, .data, .data, .data, .data, .sentinel] true :=
  Program.laidByTextLater_by_one 53 8 65 (by kernel_rfl) (by kernel_rfl) (by kernel_rfl) (by kernel_rfl) (by kernel_rfl) (by kernel_rfl) (fun _ _ => by kernel_rfl)
theorem noOwnUnsafe : Tryd.pinned.checked.prog.headLifts.contains "ownunsafe" = false := by kernel_rfl
theorem tie : Tryd.prog.laidByTextLater [("math/bits.deBruijn32tab", Rows.laid_math_bits_deBruijn32tab), ("math/bits.deBruijn64tab", Rows.laid_math_bits_deBruijn64tab), ("internal/strconv.uint64pow10", Rows.laid_internal_strconv_uint64pow10), ("loop.example/portreeve/impl.hashStart", Rows.laid_loop_example_portreeve_impl_hashStart), ("loop.example/portreeve/impl.hashKeys", Rows.laid_loop_example_portreeve_impl_hashKeys), ("loop.example/portreeve/impl.errAuditUnfit", Rows.laid_loop_example_portreeve_impl_errAuditUnfit)] [.data, .data, .data, .data, .data, .sentinel] true :=
  Program.laidByTextLater.sub seatTie1 ["math/bits.deBruijn32tab", "math/bits.deBruijn64tab", "internal/strconv.uint64pow10", "loop.example/portreeve/impl.hashStart", "loop.example/portreeve/impl.hashKeys", "loop.example/portreeve/impl.errAuditUnfit"] (by kernel_rfl) (by kernel_rfl)
theorem fnAuditTop_row_tie : Rows.fnAuditTopRow.laidByTextAt .later Tryd.pinned [.data, .data, .data, .data, .data, .sentinel] true :=
  OpenClaim.laidByTextAt_later rfl rfl tie noOwnUnsafe
theorem fnAuditAdd_row_tie : Rows.fnAuditAddRow.laidByTextAt .later Tryd.pinned [.data, .data, .data, .data, .data, .sentinel] true :=
  OpenClaim.laidByTextAt_later rfl rfl tie noOwnUnsafe
theorem fnAuditView_row_tie : Rows.fnAuditViewRow.laidByTextAt .later Tryd.pinned [.data, .data, .data, .data, .data, .sentinel] true :=
  OpenClaim.laidByTextAt_later rfl rfl tie noOwnUnsafe
theorem fnAuditHead_row_tie : Rows.fnAuditHeadRow.laidByTextAt .later Tryd.pinned [.data, .data, .data, .data, .data, .sentinel] true :=
  OpenClaim.laidByTextAt_later rfl rfl tie noOwnUnsafe
theorem fnAuditTopUpto_row_tie : Rows.fnAuditTopUptoRow.laidByTextAt .later Tryd.pinned [.data, .data, .data, .data, .data, .sentinel] true :=
  OpenClaim.laidByTextAt_later rfl rfl tie noOwnUnsafe
theorem fnAuditAddUpto_row_tie : Rows.fnAuditAddUptoRow.laidByTextAt .later Tryd.pinned [.data, .data, .data, .data, .data, .sentinel] true :=
  OpenClaim.laidByTextAt_later rfl rfl tie noOwnUnsafe
theorem fnAuditViewUpto_row_tie : Rows.fnAuditViewUptoRow.laidByTextAt .later Tryd.pinned [.data, .data, .data, .data, .data, .sentinel] true :=
  OpenClaim.laidByTextAt_later rfl rfl tie noOwnUnsafe
theorem fnAuditHeadUpto_row_tie : Rows.fnAuditHeadUptoRow.laidByTextAt .later Tryd.pinned [.data, .data, .data, .data, .data, .sentinel] true :=
  OpenClaim.laidByTextAt_later rfl rfl tie noOwnUnsafe
end Go.Proofs.YtdelijobaebfnaaDoor
