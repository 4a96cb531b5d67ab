/- What the rows' lists give: the table's cells, the handle; a world that holds them. -/
import Derived.Test.YtgmigloafcejdaaDoorI3
import Derived.Test.YtgmigloafcejdaaDoorA1
import Derived.Test.YtgmigloafcejdaaDoorCards
import Derived.Test.YtgmigloafcejdaaDoorTie
import Derived.ProofKit
import Derived.OpenShut
import Derived.OpenVars
import Derived.Deep.DeepHandedRow
import Derived.Deep.SlicePairs
import Derived.Deep.Strs
import Derived.Carry
import Derived.ChangeSlices
import Derived.Stop.LaidErr
import Derived.LaidHandle
namespace Go.Proofs.YtgmigloafcejdaaDoor
open Go.ChangeShapes Go.WideShapes Go.ChangeAt Go.RowKit

theorem own : ownKnob Tryd.prog.godebug = none := by kernel_rfl
theorem laidOut : laidOutB Tryd.prog = true := by kernel_rfl
theorem gErr : Tryd.prog.globalNamed "errors.errorType" = some 0 := by kernel_rfl
theorem gHas : Tryd.prog.globalNamed "loop.example/portreeve/impl.valueHas" = some 1 := by kernel_rfl
theorem gHasType : (Tryd.prog.globals[1]?).map (·.type) = some 121 := by kernel_rfl
theorem cells104 : Tryd.prog.cellsOf 121 = 32 := by kernel_rfl
theorem cells103 : Tryd.prog.cellsOf 120 = 4 := by kernel_rfl
theorem cells4 : Tryd.prog.cellsOf 4 = 1 := by kernel_rfl
theorem rtType : (Tryd.prog.cutTypes.find? (·.1 == "internal/reflectlite.rtype")).map (·.2) = some 127 := by kernel_rfl
theorem errRow : ((List.range 177).filter fun t => Tryd.prog.rowNamed t [101, 114, 114, 111, 114]) = [45] := by kernel_rfl
theorem typesSize : Tryd.prog.types.size = 177 := by kernel_rfl

set_option maxRecDepth 100000 in
theorem trod_bool4 {H : Type} {enc : TypeId × Value → H} {w : World} {hb : Bool} {n : Nat} {cs : List Value} {y : DataW H × List MemPlace} {b : Bool} (h : DataW.trod enc Tryd.prog w 0 (fun _ => true) hb n 4 cs = some y) (hy : y.1 = .lit (.bool b)) : cs = [.bool b] := by
  cases n with
  | zero => simp [DataW.trod] at h
  | succ n =>
    unfold DataW.trod at h
    rw [Tryd.underlying4] at h
    split at h <;> simp_all
    subst h
    simpa using hy
set_option maxRecDepth 100000 in
theorem trod_has {H : Type} {enc : TypeId × Value → H} {w : World} {hb : Bool} {n : Nat} {cs : List Value} {y : DataW H × List MemPlace} {b0 b1 b2 b3 : Bool} (h : DataW.trod enc Tryd.prog w 0 (fun _ => true) hb n 120 cs = some y)
    (hy : y.1 = .agg [.lit (.bool b0), .lit (.bool b1), .lit (.bool b2), .lit (.bool b3)]) : cs = [.bool b0, .bool b1, .bool b2, .bool b3] := by
  obtain ⟨xs, m, rfl, rfl, hl, hlen, hf⟩ := DataW.trod_struct Tryd.underlying120 h
  rw [cells103] at hl
  match xs, hlen, cs, hl with
  | [y0, y1, y2, y3], _, [c0, c1, c2, c3], _ =>
    have g0 := hf 0 _ rfl
    have g1 := hf 1 _ rfl
    have g2 := hf 2 _ rfl
    have g3 := hf 3 _ rfl
    simp [cells4] at g0 g1 g2 g3
    simp at hy
    have e0 := trod_bool4 g0 hy.1
    have e1 := trod_bool4 g1 hy.2.1
    have e2 := trod_bool4 g2 hy.2.2.1
    have e3 := trod_bool4 g3 hy.2.2.2
    simp at e0 e1 e2 e3
    rw [e0, e1, e2, e3]

def tabL : List Value := (List.range 32).map fun j => Value.bool (tabB j)

set_option maxRecDepth 100000 in
theorem trod_tab {w : World} {hb : Bool} {n : Nat} {cs : List Value} {p : List MemPlace} (h : DataW.trod (fun _ => ()) Tryd.prog w 0 (fun _ => true) hb n 121 cs = some (Rows.laid_loop_example_portreeve_impl_valueHas, p)) : cs = tabL := by
  obtain ⟨xs, m, rfl, hx, hl, hlen, hf⟩ := DataW.trod_array Tryd.underlying121 h
  rw [cells104] at hl
  rw [cells103] at hf
  simp only [Prod.mk.injEq] at hx
  match xs, hlen with
  | [y0, y1, y2, y3, y4, y5, y6, y7], _ =>
    have hx1 := hx.1
    simp only [Rows.laid_loop_example_portreeve_impl_valueHas, List.map_cons, List.map_nil, DataW.agg.injEq, List.cons.injEq, and_true] at hx1
    obtain ⟨z0, z1, z2, z3, z4, z5, z6, z7⟩ := hx1
    have e0 := trod_has (hf 0 (by decide)) z0.symm
    have e1 := trod_has (hf 1 (by decide)) z1.symm
    have e2 := trod_has (hf 2 (by decide)) z2.symm
    have e3 := trod_has (hf 3 (by decide)) z3.symm
    have e4 := trod_has (hf 4 (by decide)) z4.symm
    have e5 := trod_has (hf 5 (by decide)) z5.symm
    have e6 := trod_has (hf 6 (by decide)) z6.symm
    have e7 := trod_has (hf 7 (by decide)) z7.symm
    have split8 : ∀ L : List Value, L.length = 32 → L = (L.drop (0 * 4)).take 4 ++ ((L.drop (1 * 4)).take 4 ++ ((L.drop (2 * 4)).take 4 ++ ((L.drop (3 * 4)).take 4 ++ ((L.drop (4 * 4)).take 4 ++ ((L.drop (5 * 4)).take 4 ++ ((L.drop (6 * 4)).take 4 ++ (L.drop (7 * 4)).take 4)))))) := fun L hL => by
      have t7 : (L.drop (7 * 4)).take 4 = L.drop (7 * 4) := List.take_of_length_le (by simp; omega)
      have tt : ∀ k : Nat, (L.drop k).take 4 ++ L.drop (k + 4) = L.drop k := fun k => by
        rw [show L.drop (k + 4) = (L.drop k).drop 4 from by rw [List.drop_drop]]
        exact List.take_append_drop 4 _
      rw [t7, tt 24, tt 20, tt 16, tt 12, tt 8, tt 4, tt 0]
      rfl
    rw [split8 cs hl, e0, e1, e2, e3, e4, e5, e6, e7]
    rfl

theorem tabL_get (j : Nat) (hj : j < 32) : tabL[j]? = some (.bool (tabB j)) := by simp [tabL, hj]

/-- what the rows' condition gives a walk -/
theorem tab_of {W : World} (h : laidMetH Tryd.prog [("errors.errorType", Rows.laid_errors_errorType), ("loop.example/portreeve/impl.valueHas", Rows.laid_loop_example_portreeve_impl_valueHas)] W) : Tab W := by
  have h' : laidMet Tryd.prog [("loop.example/portreeve/impl.valueHas", Rows.laid_loop_example_portreeve_impl_valueHas)] W ∧ handlesMet Tryd.prog [("errors.errorType", Rows.laid_errors_errorType)] W := h
  refine ⟨fun j hj => ?_, ?_⟩
  · obtain ⟨ps, ⟨g', t', cs, fuel, p, q, hg', ht', hvar, hd, _, _⟩, _⟩ := h'.1
    obtain rfl := Option.some.inj (gHas.symm.trans hg')
    obtain rfl := Option.some.inj (gHasType.symm.trans ht')
    have e := trod_tab hd
    rw [World.var?_cell gHas hvar j, ← Array.getElem?_toList, e, tabL_get j hj]
  · obtain ⟨name, u, ty, e1, e2, e3, e4, e5⟩ := h'.2 _ (List.mem_singleton.2 rfl)
    have en : name = [101, 114, 114, 111, 114] := (Option.some.inj e1).symm
    subst en
    obtain rfl := Option.some.inj (rtType.symm.trans e2)
    have hm : ty ∈ (List.range 177).filter fun t => Tryd.prog.rowNamed t [101, 114, 114, 111, 114] := List.mem_filter.2 ⟨List.mem_range.2 (by rw [← typesSize]; exact e3), e4⟩
    rw [errRow] at hm
    obtain rfl := List.mem_singleton.1 hm
    have hh : typeHandle Tryd.prog 45 = .pointer (some ⟨3, 45, none⟩) := by kernel_rfl
    rw [hh] at e5
    simpa using World.var?_cell gErr e5 0

theorem tab_two {W : World} (h : laidMetH Tryd.prog [("errors.errorType", Rows.laid_errors_errorType), ("loop.example/portreeve/impl.valueHas", Rows.laid_loop_example_portreeve_impl_valueHas)] W) : Tab W := tab_of h

def setVar (C : Array Value) : Obj → Obj
  | .cells _ t frozen => .cells C t frozen
  | o => o
/-- a world for the witness: the two variables holding what the program's text lays -/
def layVars (w : World) : World := { w with heap := (w.heap.modify 0 (setVar #[.iface 127 (.agg #[.pointer (some ⟨3, 45, none⟩)])])).modify 1 (setVar tabL.toArray) }
end Go.Proofs.YtgmigloafcejdaaDoor
