/- What the rows' lists give: the table's cells, the handle; a world that holds them. -/
import Derived.Test.YtgmigloafcejdaaGreatDoorSH7
import Derived.Test.YtgmigloafcejdaaGreatDoorA1
import Derived.Test.YtgmigloafcejdaaGreatDoorCards
import Derived.Test.YtgmigloafcejdaaGreatDoorTie
import Derived.LaidHandle
import Derived.Stop.LaidErr
import Derived.ChangeSlices
import Derived.Carry
import Derived.Deep.Strs
import Derived.Deep.SlicePairs
import Derived.Deep.DeepHandedRow
import Derived.OpenVars
import Derived.OpenShut
import Derived.ProofKit
import Derived.Lib.LaidTab
namespace Go.Proofs.YtgmigloafcejdaaGreatDoor
open Go.ChangeShapes Go.WideShapes Go.ChangeAt Go.RowKit

theorem own : ownKnob Tryz.prog.godebug = none := by kernel_rfl
theorem laidOut : laidOutB Tryz.prog = true := by kernel_rfl
theorem gErr : Tryz.prog.globalNamed "errors.errorType" = some 0 := by kernel_rfl
theorem gHas : Tryz.prog.globalNamed "loop.example/portreeve/impl.valueHas" = some 1 := by kernel_rfl
theorem gHasType : (Tryz.prog.globals[1]?).map (·.type) = some 175 := by kernel_rfl
theorem cells104 : Tryz.prog.cellsOf 175 = 32 := by kernel_rfl
theorem cells103 : Tryz.prog.cellsOf 174 = 4 := by kernel_rfl
theorem cells4 : Tryz.prog.cellsOf 4 = 1 := by kernel_rfl
theorem rtType : (Tryz.prog.cutTypes.find? (·.1 == "internal/reflectlite.rtype")).map (·.2) = some 160 := by kernel_rfl
theorem errRow : ((List.range 261).filter fun t => Tryz.prog.rowNamed t [101, 114, 114, 111, 114]) = [58] := by kernel_rfl
theorem typesSize : Tryz.prog.types.size = 261 := by kernel_rfl

set_option maxRecDepth 100000 in
theorem trod_bool4 {H : Type} {enc : TypeId × Value → H} {w : World} {hb : Bool} {n : Nat} {cs : List Value} {y : DataW H × List MemPlace} {b : Bool} (h : DataW.trod enc Tryz.prog w 0 (fun _ => true) hb n 4 cs = some y) (hy : y.1 = .lit (.bool b)) : cs = [.bool b] := by
  cases n with
  | zero => simp [DataW.trod] at h
  | succ n =>
    unfold DataW.trod at h
    rw [Tryz.underlying4] at h
    split at h <;> simp_all
    subst h
    simpa using hy
set_option maxRecDepth 100000 in
theorem trod_has {H : Type} {enc : TypeId × Value → H} {w : World} {hb : Bool} {n : Nat} {cs : List Value} {y : DataW H × List MemPlace} {b0 b1 b2 b3 : Bool} (h : DataW.trod enc Tryz.prog w 0 (fun _ => true) hb n 174 cs = some y)
    (hy : y.1 = .agg [.lit (.bool b0), .lit (.bool b1), .lit (.bool b2), .lit (.bool b3)]) : cs = [.bool b0, .bool b1, .bool b2, .bool b3] := by
  obtain ⟨xs, m, rfl, rfl, hl, hlen, hf⟩ := DataW.trod_struct Tryz.underlying174 h
  rw [cells103] at hl
  match xs, hlen, cs, hl with
  | [y0, y1, y2, y3], _, [c0, c1, c2, c3], _ =>
    have g0 := hf 0 _ rfl
    have g1 := hf 1 _ rfl
    have g2 := hf 2 _ rfl
    have g3 := hf 3 _ rfl
    simp [cells4] at g0 g1 g2 g3
    simp at hy
    have e0 := trod_bool4 g0 hy.1
    have e1 := trod_bool4 g1 hy.2.1
    have e2 := trod_bool4 g2 hy.2.2.1
    have e3 := trod_bool4 g3 hy.2.2.2
    simp at e0 e1 e2 e3
    rw [e0, e1, e2, e3]

def tabL : List Value := (List.range 32).map fun j => Value.bool (tabB j)

set_option maxRecDepth 100000 in
theorem trod_tab {w : World} {hb : Bool} {n : Nat} {cs : List Value} {p : List MemPlace} (h : DataW.trod (fun _ => ()) Tryz.prog w 0 (fun _ => true) hb n 175 cs = some (Rows.laid_loop_example_portreeve_impl_valueHas, p)) : cs = tabL := by
  obtain ⟨xs, m, rfl, hx, hl, hlen, hf⟩ := DataW.trod_array Tryz.underlying175 h
  rw [cells104] at hl
  rw [cells103] at hf
  simp only [Prod.mk.injEq] at hx
  match xs, hlen with
  | [y0, y1, y2, y3, y4, y5, y6, y7], _ =>
    have hx1 := hx.1
    simp only [Rows.laid_loop_example_portreeve_impl_valueHas, List.map_cons, List.map_nil, DataW.agg.injEq, List.cons.injEq, and_true] at hx1
    obtain ⟨z0, z1, z2, z3, z4, z5, z6, z7⟩ := hx1
    have e0 := trod_has (hf 0 (by decide)) z0.symm
    have e1 := trod_has (hf 1 (by decide)) z1.symm
    have e2 := trod_has (hf 2 (by decide)) z2.symm
    have e3 := trod_has (hf 3 (by decide)) z3.symm
    have e4 := trod_has (hf 4 (by decide)) z4.symm
    have e5 := trod_has (hf 5 (by decide)) z5.symm
    have e6 := trod_has (hf 6 (by decide)) z6.symm
    have e7 := trod_has (hf 7 (by decide)) z7.symm
    have split8 : ∀ L : List Value, L.length = 32 → L = (L.drop (0 * 4)).take 4 ++ ((L.drop (1 * 4)).take 4 ++ ((L.drop (2 * 4)).take 4 ++ ((L.drop (3 * 4)).take 4 ++ ((L.drop (4 * 4)).take 4 ++ ((L.drop (5 * 4)).take 4 ++ ((L.drop (6 * 4)).take 4 ++ (L.drop (7 * 4)).take 4)))))) := fun L hL => by
      have t7 : (L.drop (7 * 4)).take 4 = L.drop (7 * 4) := List.take_of_length_le (by simp; omega)
      have tt : ∀ k : Nat, (L.drop k).take 4 ++ L.drop (k + 4) = L.drop k := fun k => by
        rw [show L.drop (k + 4) = (L.drop k).drop 4 from by rw [List.drop_drop]]
        exact List.take_append_drop 4 _
      rw [t7, tt 24, tt 20, tt 16, tt 12, tt 8, tt 4, tt 0]
      rfl
    rw [split8 cs hl, e0, e1, e2, e3, e4, e5, e6, e7]
    rfl

theorem tabL_get (j : Nat) (hj : j < 32) : tabL[j]? = some (.bool (tabB j)) := by simp [tabL, hj]

/-- what the rows' condition gives a walk: the table -/
theorem tab_of_parts {W : World} (h1 : laidMet Tryz.prog [("loop.example/portreeve/impl.valueHas", Rows.laid_loop_example_portreeve_impl_valueHas)] W) (h2 : handlesMet Tryz.prog [("errors.errorType", Rows.laid_errors_errorType)] W) : Tab W := by
  refine ⟨fun j hj => ?_, ?_⟩
  · obtain ⟨ps, ⟨g', t', cs, fuel, p, q, hg', ht', hvar, hd, _, _⟩, _⟩ := h1
    obtain rfl := Option.some.inj (gHas.symm.trans hg')
    obtain rfl := Option.some.inj (gHasType.symm.trans ht')
    have e := trod_tab hd
    rw [World.var?_cell gHas hvar j, ← Array.getElem?_toList, e, tabL_get j hj]
  · obtain ⟨name, u, ty, e1, e2, e3, e4, e5⟩ := h2 _ (List.mem_singleton.2 rfl)
    have en : name = [101, 114, 114, 111, 114] := (Option.some.inj e1).symm
    subst en
    obtain rfl := Option.some.inj (rtType.symm.trans e2)
    have hm : ty ∈ (List.range 261).filter fun t => Tryz.prog.rowNamed t [101, 114, 114, 111, 114] := List.mem_filter.2 ⟨List.mem_range.2 (by rw [← typesSize]; exact e3), e4⟩
    rw [errRow] at hm
    obtain rfl := List.mem_singleton.1 hm
    have hh : typeHandle Tryz.prog 58 = .pointer (some ⟨10, 58, none⟩) := by kernel_rfl
    rw [hh] at e5
    simpa using World.var?_cell gErr e5 0

theorem gPowType : (Tryz.prog.globals[3]?).map (·.type) = some 203 := by kernel_rfl
theorem cellsOf155 : Tryz.prog.cellsOf 203 = 20 := by kernel_rfl
theorem cellsOf147 : Tryz.prog.cellsOf 190 = 1 := by kernel_rfl
theorem powData : (Rows.laid_internal_strconv_uint64pow10 : DataW Unit) = Lib.tabData .u64 Lib.pow10Tab := by kernel_rfl
theorem tabs_five {W : World} (h : laidMetH Tryz.prog [("math/bits.deBruijn32tab", Rows.laid_math_bits_deBruijn32tab), ("math/bits.deBruijn64tab", Rows.laid_math_bits_deBruijn64tab), ("internal/strconv.uint64pow10", Rows.laid_internal_strconv_uint64pow10), ("errors.errorType", Rows.laid_errors_errorType), ("loop.example/portreeve/impl.valueHas", Rows.laid_loop_example_portreeve_impl_valueHas)] W) : Tab W ∧ Pow W := by
  have h' : laidMet Tryz.prog [("math/bits.deBruijn32tab", (Rows.laid_math_bits_deBruijn32tab : DataW Unit)), ("math/bits.deBruijn64tab", Rows.laid_math_bits_deBruijn64tab), ("internal/strconv.uint64pow10", Rows.laid_internal_strconv_uint64pow10), ("loop.example/portreeve/impl.valueHas", Rows.laid_loop_example_portreeve_impl_valueHas)] W ∧ handlesMet Tryz.prog [("errors.errorType", Rows.laid_errors_errorType)] W := h
  have h2 := laidMet.tail (laidMet.tail h'.1)
  rw [powData] at h2
  have h3 := laidMet.tail h2
  exact ⟨tab_of_parts h3 h'.2, Lib.tabIs_of_head gPow gPowType Tryz.underlying203 Tryz.underlying190 cellsOf147 cellsOf155 h2⟩

def setVar (C : Array Value) : Obj → Obj
  | .cells _ t frozen => .cells C t frozen
  | o => o
/-- a world for the witness: the variables holding what the program's text lays -/
def layVars (w : World) : World := { w with heap := ((((w.heap.modify 0 (setVar #[.iface 160 (.agg #[.pointer (some ⟨10, 58, none⟩)])])).modify 1 (setVar tabL.toArray)).modify 3 (setVar #[.int .u64 1, .int .u64 10, .int .u64 100, .int .u64 1000, .int .u64 10000, .int .u64 100000, .int .u64 1000000, .int .u64 10000000, .int .u64 100000000, .int .u64 1000000000, .int .u64 10000000000, .int .u64 100000000000, .int .u64 1000000000000, .int .u64 10000000000000, .int .u64 100000000000000, .int .u64 1000000000000000, .int .u64 10000000000000000, .int .u64 100000000000000000, .int .u64 1000000000000000000, .int .u64 10000000000000000000])).modify 8 (setVar #[.int .u8 0, .int .u8 1, .int .u8 28, .int .u8 2, .int .u8 29, .int .u8 14, .int .u8 24, .int .u8 3, .int .u8 30, .int .u8 22, .int .u8 20, .int .u8 15, .int .u8 25, .int .u8 17, .int .u8 4, .int .u8 8, .int .u8 31, .int .u8 27, .int .u8 13, .int .u8 23, .int .u8 21, .int .u8 19, .int .u8 16, .int .u8 7, .int .u8 26, .int .u8 12, .int .u8 18, .int .u8 6, .int .u8 11, .int .u8 5, .int .u8 10, .int .u8 9])).modify 9 (setVar #[.int .u8 0, .int .u8 1, .int .u8 56, .int .u8 2, .int .u8 57, .int .u8 49, .int .u8 28, .int .u8 3, .int .u8 61, .int .u8 58, .int .u8 42, .int .u8 50, .int .u8 38, .int .u8 29, .int .u8 17, .int .u8 4, .int .u8 62, .int .u8 47, .int .u8 59, .int .u8 36, .int .u8 45, .int .u8 43, .int .u8 51, .int .u8 22, .int .u8 53, .int .u8 39, .int .u8 33, .int .u8 30, .int .u8 24, .int .u8 18, .int .u8 12, .int .u8 5, .int .u8 63, .int .u8 55, .int .u8 48, .int .u8 27, .int .u8 60, .int .u8 41, .int .u8 37, .int .u8 16, .int .u8 46, .int .u8 35, .int .u8 44, .int .u8 21, .int .u8 52, .int .u8 32, .int .u8 23, .int .u8 11, .int .u8 54, .int .u8 26, .int .u8 40, .int .u8 15, .int .u8 34, .int .u8 20, .int .u8 31, .int .u8 10, .int .u8 25, .int .u8 14, .int .u8 19, .int .u8 9, .int .u8 13, .int .u8 8, .int .u8 7, .int .u8 6]) }
end Go.Proofs.YtgmigloafcejdaaGreatDoor

