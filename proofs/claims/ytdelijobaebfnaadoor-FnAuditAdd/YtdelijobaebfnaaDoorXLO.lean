/- What the list of the laid variables gives; a world that holds them. -/
import Derived.Test.YtdelijobaebfnaaDoorAJ
import Derived.Test.YtdelijobaebfnaaDoorXT1
import Derived.Test.YtdelijobaebfnaaDoorCards
import Derived.Test.YtdelijobaebfnaaDoorTie
import Derived.ProofKit
import Derived.OpenShut
import Derived.OpenVars
import Derived.Deep.DeepHandedRow
import Derived.Lib.LaidTab
import Derived.Stop.LaidErr
namespace Go.Proofs.YtdelijobaebfnaaDoor
open Go.ChangeShapes Go.WideShapes Go.ChangeAt Go.RowKit

theorem gPow : Tryd.prog.globalNamed "internal/strconv.uint64pow10" = some 3 := by kernel_rfl
theorem gPowType : (Tryd.prog.globals[3]?).map (·.type) = some 152 := by kernel_rfl
theorem cellsOf91 : Tryd.prog.cellsOf 152 = 20 := by kernel_rfl
theorem cellsOf53 : Tryd.prog.cellsOf 92 = 1 := by kernel_rfl
theorem powData : (Rows.laid_internal_strconv_uint64pow10 : DataW Unit) = Lib.tabData .u64 Lib.pow10Tab := by kernel_rfl
theorem gUnf : Tryd.prog.globalNamed "loop.example/portreeve/impl.errAuditUnfit" = some 0 := by kernel_rfl
theorem gUnfType : (Tryd.prog.globals[0]?).map (·.type) = some 50 := by kernel_rfl
theorem starErr : "*" ++ "errors.errorString" = "*errors.errorString" := by decide
theorem rowErr (u : TypeId) (h : Tryd.prog.typeName? 3 u = some "*errors.errorString") : u = 158 :=
  typeName_ptr_named (nm := "errors.errorString") (by rw [starErr]; kernel_rfl) (by kernel_rfl) (by decide) u (by rw [starErr]; exact h)
theorem cellsErr : Tryd.prog.cellsOf 180 = 1 := by kernel_rfl
theorem cellsStr : Tryd.prog.cellsOf 9 = 1 := by kernel_rfl
theorem trodVars_three {H : Type} {enc : TypeId × Value → H} {P : Program} {w : World} {spare : Nat → Bool} {n0 n1 n2 : String} {gs : List (DataW H)} {ps : List MemPlace} (h : DataW.TrodVars enc P w spare [n0, n1, n2] gs ps) : ∃ d0 d1 d2, gs = [d0, d1, d2] := by
  cases gs with
  | nil => simp [DataW.TrodVars] at h
  | cons d ds =>
    obtain ⟨g0, t0, cs0, f0, p0, q0, h1, h2, h3, h4, hs, e⟩ := h
    obtain ⟨g1, t1, cs1, f1, d1, p1, g2, t2, cs2, f2, d2, p2, rfl, -⟩ := trodVars_two hs
    exact ⟨d, d1, d2, rfl⟩
/-- A WORLD FOR THE WITNESS: the tables, and the error. -/
def layErrs (w : World) : World :=
  let w1 := (w.alloc (.cells #[.string ⟨#[97, 110, 32, 101, 110, 116, 114, 121, 32, 116, 104, 97, 116, 32, 100, 111, 101, 115, 32, 110, 111, 116, 32, 102, 105, 116]⟩] 180))
  { w1 with heap := ((((((w1.heap.modify 4 (setTab #[.int .u8 0, .int .u8 1, .int .u8 28, .int .u8 2, .int .u8 29, .int .u8 14, .int .u8 24, .int .u8 3, .int .u8 30, .int .u8 22, .int .u8 20, .int .u8 15, .int .u8 25, .int .u8 17, .int .u8 4, .int .u8 8, .int .u8 31, .int .u8 27, .int .u8 13, .int .u8 23, .int .u8 21, .int .u8 19, .int .u8 16, .int .u8 7, .int .u8 26, .int .u8 12, .int .u8 18, .int .u8 6, .int .u8 11, .int .u8 5, .int .u8 10, .int .u8 9])).modify 5 (setTab #[.int .u8 0, .int .u8 1, .int .u8 56, .int .u8 2, .int .u8 57, .int .u8 49, .int .u8 28, .int .u8 3, .int .u8 61, .int .u8 58, .int .u8 42, .int .u8 50, .int .u8 38, .int .u8 29, .int .u8 17, .int .u8 4, .int .u8 62, .int .u8 47, .int .u8 59, .int .u8 36, .int .u8 45, .int .u8 43, .int .u8 51, .int .u8 22, .int .u8 53, .int .u8 39, .int .u8 33, .int .u8 30, .int .u8 24, .int .u8 18, .int .u8 12, .int .u8 5, .int .u8 63, .int .u8 55, .int .u8 48, .int .u8 27, .int .u8 60, .int .u8 41, .int .u8 37, .int .u8 16, .int .u8 46, .int .u8 35, .int .u8 44, .int .u8 21, .int .u8 52, .int .u8 32, .int .u8 23, .int .u8 11, .int .u8 54, .int .u8 26, .int .u8 40, .int .u8 15, .int .u8 34, .int .u8 20, .int .u8 31, .int .u8 10, .int .u8 25, .int .u8 14, .int .u8 19, .int .u8 9, .int .u8 13, .int .u8 8, .int .u8 7, .int .u8 6])).modify 3 (setTab #[.int .u64 1, .int .u64 10, .int .u64 100, .int .u64 1000, .int .u64 10000, .int .u64 100000, .int .u64 1000000, .int .u64 10000000, .int .u64 100000000, .int .u64 1000000000, .int .u64 10000000000, .int .u64 100000000000, .int .u64 1000000000000, .int .u64 10000000000000, .int .u64 100000000000000, .int .u64 1000000000000000, .int .u64 10000000000000000, .int .u64 100000000000000000, .int .u64 1000000000000000000, .int .u64 10000000000000000000])).modify 1 (setTab #[.int .u32 1779033703, .int .u32 3144134277, .int .u32 1013904242, .int .u32 2773480762, .int .u32 1359893119, .int .u32 2600822924, .int .u32 528734635, .int .u32 1541459225])).modify 2 (setTab #[.int .u32 1116352408, .int .u32 1899447441, .int .u32 3049323471, .int .u32 3921009573, .int .u32 961987163, .int .u32 1508970993, .int .u32 2453635748, .int .u32 2870763221, .int .u32 3624381080, .int .u32 310598401, .int .u32 607225278, .int .u32 1426881987, .int .u32 1925078388, .int .u32 2162078206, .int .u32 2614888103, .int .u32 3248222580, .int .u32 3835390401, .int .u32 4022224774, .int .u32 264347078, .int .u32 604807628, .int .u32 770255983, .int .u32 1249150122, .int .u32 1555081692, .int .u32 1996064986, .int .u32 2554220882, .int .u32 2821834349, .int .u32 2952996808, .int .u32 3210313671, .int .u32 3336571891, .int .u32 3584528711, .int .u32 113926993, .int .u32 338241895, .int .u32 666307205, .int .u32 773529912, .int .u32 1294757372, .int .u32 1396182291, .int .u32 1695183700, .int .u32 1986661051, .int .u32 2177026350, .int .u32 2456956037, .int .u32 2730485921, .int .u32 2820302411, .int .u32 3259730800, .int .u32 3345764771, .int .u32 3516065817, .int .u32 3600352804, .int .u32 4094571909, .int .u32 275423344, .int .u32 430227734, .int .u32 506948616, .int .u32 659060556, .int .u32 883997877, .int .u32 958139571, .int .u32 1322822218, .int .u32 1537002063, .int .u32 1747873779, .int .u32 1955562222, .int .u32 2024104815, .int .u32 2227730452, .int .u32 2361852424, .int .u32 2428436474, .int .u32 2756734187, .int .u32 3204031479, .int .u32 3329325298])).modify 0 (setTab #[.iface 158 (.pointer (some ⟨w.heap.size, 0, none⟩))])) }
theorem tabs_errs {W : World} (h : laidMetH Tryd.prog [("math/bits.deBruijn32tab", Rows.laid_math_bits_deBruijn32tab), ("math/bits.deBruijn64tab", Rows.laid_math_bits_deBruijn64tab), ("internal/strconv.uint64pow10", Rows.laid_internal_strconv_uint64pow10), ("loop.example/portreeve/impl.hashStart", Rows.laid_loop_example_portreeve_impl_hashStart), ("loop.example/portreeve/impl.hashKeys", Rows.laid_loop_example_portreeve_impl_hashKeys), ("loop.example/portreeve/impl.errAuditUnfit", Rows.laid_loop_example_portreeve_impl_errAuditUnfit)] W) : Tabs W ∧ Pow W ∧ ∃ a, UnfC W a := by
  have k0 : laidMet Tryd.prog [("math/bits.deBruijn32tab", (Rows.laid_math_bits_deBruijn32tab : DataW Unit)), ("math/bits.deBruijn64tab", Rows.laid_math_bits_deBruijn64tab), ("internal/strconv.uint64pow10", Rows.laid_internal_strconv_uint64pow10), ("loop.example/portreeve/impl.hashStart", Rows.laid_loop_example_portreeve_impl_hashStart), ("loop.example/portreeve/impl.hashKeys", Rows.laid_loop_example_portreeve_impl_hashKeys), ("loop.example/portreeve/impl.errAuditUnfit", Rows.laid_loop_example_portreeve_impl_errAuditUnfit)] W := h
  have k1 := laidMet.tail k0
  have k2 := laidMet.tail k1
  have k3 := laidMet.tail k2
  have k4 := laidMet.tail k3
  have k5 := laidMet.tail k4
  obtain ⟨a1, s1, hv1, -, -, -⟩ := laid_sentinel k5 gUnf gUnfType Tryd.underlying50 rowErr Tryd.underlying158 Tryd.underlying180 rfl rfl Tryd.underlying9 cellsErr cellsStr
  rw [powData] at k2
  rw [startData] at k3
  rw [keysData] at k4
  have hTb : Tabs W := tabs_of (Lib.tabIs_of_head gStart gStartType Tryd.underlying91 Tryd.underlying89 cellsOf50 cellsOf52 k3) (Lib.tabIs_of_head gKeys gKeysType Tryd.underlying138 Tryd.underlying89 cellsOf50 cellsOf84 k4)
  exact ⟨hTb, Lib.tabIs_of_head gPow gPowType Tryd.underlying152 Tryd.underlying92 cellsOf53 cellsOf91 k2, a1, by unfold UnfC; simpa using World.var?_cell gUnf hv1 0⟩
end Go.Proofs.YtdelijobaebfnaaDoor
