/- What the rows' lists of the library's three tables and two errors give; a world that holds them. -/
import Derived.Test.YtecekbhkombnnaaDoorXT3
import Derived.Test.YtecekbhkombnnaaDoorNI
namespace Go.Proofs.YtecekbhkombnnaaDoor
open Go.ChangeShapes Go.WideShapes Go.ChangeAt Go.RowKit

theorem gRange : Tryd.prog.globalNamed "strconv.ErrRange" = some 2 := by kernel_rfl
theorem gRangeType : (Tryd.prog.globals[2]?).map (·.type) = some 64 := by kernel_rfl
theorem gSyntax : Tryd.prog.globalNamed "strconv.ErrSyntax" = some 1 := by kernel_rfl
theorem gSyntaxType : (Tryd.prog.globals[1]?).map (·.type) = some 64 := by kernel_rfl
theorem starErr : "*" ++ "errors.errorString" = "*errors.errorString" := by decide
theorem rowErr (u : TypeId) (h : Tryd.prog.typeName? 3 u = some "*errors.errorString") : u = 136 :=
  typeName_ptr_named (nm := "errors.errorString") (by rw [starErr]; kernel_rfl) (by kernel_rfl) (by decide) u (by rw [starErr]; exact h)
theorem cellsErr : Tryd.prog.cellsOf 138 = 1 := by kernel_rfl
theorem cellsStr : Tryd.prog.cellsOf 9 = 1 := by kernel_rfl
/-- A WORLD FOR THE WITNESS: the tables, and the two errors. -/
def layErrs (w : World) : World :=
  let w1 := layTabs5 ((w.alloc (.cells #[.string ⟨#[118, 97, 108, 117, 101, 32, 111, 117, 116, 32, 111, 102, 32, 114, 97, 110, 103, 101]⟩] 138)).alloc (.cells #[.string ⟨#[105, 110, 118, 97, 108, 105, 100, 32, 115, 121, 110, 116, 97, 120]⟩] 138))
  { w1 with heap := (w1.heap.modify 2 (setTab #[.iface 136 (.pointer (some ⟨w.heap.size, 0, none⟩))])).modify 1 (setTab #[.iface 136 (.pointer (some ⟨w.heap.size + 1, 0, none⟩))]) }
theorem tabs_errs {W : World} (h : laidMetH Tryd.prog [("math/bits.deBruijn32tab", Rows.laid_math_bits_deBruijn32tab), ("math/bits.deBruijn64tab", Rows.laid_math_bits_deBruijn64tab), ("internal/strconv.uint64pow10", Rows.laid_internal_strconv_uint64pow10), ("strconv.ErrRange", Rows.laid_strconv_ErrRange), ("strconv.ErrSyntax", Rows.laid_strconv_ErrSyntax)] W) : Pow W ∧ ErrC W := by
  have h0 : laidMet Tryd.prog [("math/bits.deBruijn32tab", (Rows.laid_math_bits_deBruijn32tab : DataW Unit)), ("math/bits.deBruijn64tab", Rows.laid_math_bits_deBruijn64tab), ("internal/strconv.uint64pow10", Rows.laid_internal_strconv_uint64pow10), ("strconv.ErrRange", Rows.laid_strconv_ErrRange), ("strconv.ErrSyntax", Rows.laid_strconv_ErrSyntax)] W := h
  have h2 := laidMet.tail (laidMet.tail h0)
  have h3 := laidMet.tail h2
  have h4 := laidMet.tail h3
  rw [powData] at h2
  obtain ⟨a1, s1, hv1, -, -, -⟩ := laid_sentinel h3 gRange gRangeType Tryd.underlying64 rowErr Tryd.underlying136 Tryd.underlying138 rfl rfl Tryd.underlying9 cellsErr cellsStr
  obtain ⟨a2, s2, hv2, -, -, -⟩ := laid_sentinel h4 gSyntax gSyntaxType Tryd.underlying64 rowErr Tryd.underlying136 Tryd.underlying138 rfl rfl Tryd.underlying9 cellsErr cellsStr
  exact ⟨Lib.tabIs_of_head gPow gPowType Tryd.underlying141 Tryd.underlying81 cellsOf53 cellsOf91 h2, ⟨_, _, by simpa using World.var?_cell gSyntax hv2 0⟩, _, _, by simpa using World.var?_cell gRange hv1 0⟩
end Go.Proofs.YtecekbhkombnnaaDoor
