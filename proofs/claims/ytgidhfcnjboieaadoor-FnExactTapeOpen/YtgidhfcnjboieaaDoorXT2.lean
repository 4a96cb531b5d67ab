/- What the rows' lists of five tables give; a world that holds them. -/
import Derived.Test.YtgidhfcnjboieaaDoorXT1
import Derived.Test.YtgidhfcnjboieaaDoorXQP
namespace Go.Proofs.YtgidhfcnjboieaaDoor
open Go.ChangeShapes Go.WideShapes Go.ChangeAt Go.RowKit

theorem gPow : Tryd.prog.globalNamed "internal/strconv.uint64pow10" = some 2 := by kernel_rfl
theorem gPowType : (Tryd.prog.globals[2]?).map (·.type) = some 139 := by kernel_rfl
theorem cellsOf91 : Tryd.prog.cellsOf 139 = 20 := by kernel_rfl
theorem cellsOf53 : Tryd.prog.cellsOf 113 = 1 := by kernel_rfl
theorem powData : (Rows.laid_internal_strconv_uint64pow10 : DataW Unit) = Lib.tabData .u64 Lib.pow10Tab := by kernel_rfl
def layTabs5 (w : World) : World := { w with heap := ((((w.heap.modify 1 (setTab (u32s H0).toArray)).modify 5 (setTab (u32s K0).toArray)).modify 2 (setTab #[.int .u64 1, .int .u64 10, .int .u64 100, .int .u64 1000, .int .u64 10000, .int .u64 100000, .int .u64 1000000, .int .u64 10000000, .int .u64 100000000, .int .u64 1000000000, .int .u64 10000000000, .int .u64 100000000000, .int .u64 1000000000000, .int .u64 10000000000000, .int .u64 100000000000000, .int .u64 1000000000000000, .int .u64 10000000000000000, .int .u64 100000000000000000, .int .u64 1000000000000000000, .int .u64 10000000000000000000])).modify 6 (setTab #[.int .u8 0, .int .u8 1, .int .u8 28, .int .u8 2, .int .u8 29, .int .u8 14, .int .u8 24, .int .u8 3, .int .u8 30, .int .u8 22, .int .u8 20, .int .u8 15, .int .u8 25, .int .u8 17, .int .u8 4, .int .u8 8, .int .u8 31, .int .u8 27, .int .u8 13, .int .u8 23, .int .u8 21, .int .u8 19, .int .u8 16, .int .u8 7, .int .u8 26, .int .u8 12, .int .u8 18, .int .u8 6, .int .u8 11, .int .u8 5, .int .u8 10, .int .u8 9])).modify 7 (setTab #[.int .u8 0, .int .u8 1, .int .u8 56, .int .u8 2, .int .u8 57, .int .u8 49, .int .u8 28, .int .u8 3, .int .u8 61, .int .u8 58, .int .u8 42, .int .u8 50, .int .u8 38, .int .u8 29, .int .u8 17, .int .u8 4, .int .u8 62, .int .u8 47, .int .u8 59, .int .u8 36, .int .u8 45, .int .u8 43, .int .u8 51, .int .u8 22, .int .u8 53, .int .u8 39, .int .u8 33, .int .u8 30, .int .u8 24, .int .u8 18, .int .u8 12, .int .u8 5, .int .u8 63, .int .u8 55, .int .u8 48, .int .u8 27, .int .u8 60, .int .u8 41, .int .u8 37, .int .u8 16, .int .u8 46, .int .u8 35, .int .u8 44, .int .u8 21, .int .u8 52, .int .u8 32, .int .u8 23, .int .u8 11, .int .u8 54, .int .u8 26, .int .u8 40, .int .u8 15, .int .u8 34, .int .u8 20, .int .u8 31, .int .u8 10, .int .u8 25, .int .u8 14, .int .u8 19, .int .u8 9, .int .u8 13, .int .u8 8, .int .u8 7, .int .u8 6]) }
theorem tabs_five {W : World} (h : laidMetH Tryd.prog [("math/bits.deBruijn32tab", Rows.laid_math_bits_deBruijn32tab), ("math/bits.deBruijn64tab", Rows.laid_math_bits_deBruijn64tab), ("internal/strconv.uint64pow10", Rows.laid_internal_strconv_uint64pow10), ("loop.example/portreeve/impl.hashStart", Rows.laid_loop_example_portreeve_impl_hashStart), ("loop.example/portreeve/impl.hashKeys", Rows.laid_loop_example_portreeve_impl_hashKeys)] W) : Tabs W ∧ Pow W := by
  have h0 : laidMet Tryd.prog [("math/bits.deBruijn32tab", (Rows.laid_math_bits_deBruijn32tab : DataW Unit)), ("math/bits.deBruijn64tab", Rows.laid_math_bits_deBruijn64tab), ("internal/strconv.uint64pow10", Rows.laid_internal_strconv_uint64pow10), ("loop.example/portreeve/impl.hashStart", Lib.tabData .u32 H0), ("loop.example/portreeve/impl.hashKeys", Lib.tabData .u32 K0)] W := h
  have h2 := laidMet.tail (laidMet.tail h0)
  rw [powData] at h2
  have h3 := laidMet.tail h2
  refine ⟨tabs_of (Lib.tabIs_of_head gStart gStartType Tryd.underlying131 Tryd.underlying124 cellsOf50 cellsOf52 h3) (Lib.tabIs_of_head gKeys gKeysType Tryd.underlying173 Tryd.underlying124 cellsOf50 cellsOf84 (laidMet.tail h3)), ?_⟩
  exact Lib.tabIs_of_head gPow gPowType Tryd.underlying139 Tryd.underlying113 cellsOf53 cellsOf91 h2
end Go.Proofs.YtgidhfcnjboieaaDoor
