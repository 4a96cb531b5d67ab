/- What the rows give of the arguments. -/
import Derived.Test.YtgidhfcnjboieaaDoorN1
import Derived.Test.YtgidhfcnjboieaaDoorRows
import Derived.ProofKit
import Derived.OpenShut
import Derived.OpenVars
import Derived.Deep.DeepHandedRow
import Derived.Deep.SlicePairs
import Derived.Deep.Strs
import Derived.Carry
import Derived.ChangeSlices
import Derived.Stop.LaidErr
namespace Go.Proofs.YtgidhfcnjboieaaDoor
open Go.ChangeShapes Go.WideShapes Go.ChangeAt Go.RowKit

theorem own : ownKnob Tryd.prog.godebug = none := by kernel_rfl
theorem laidOut : laidOutB Tryd.prog = true := by kernel_rfl
theorem cells44 : Tryd.prog.cellsOf 39 = 7 := by kernel_rfl
theorem cells3 : Tryd.prog.cellsOf 3 = 1 := by kernel_rfl
theorem cells9 : Tryd.prog.cellsOf 9 = 1 := by kernel_rfl
theorem wf64 {n : Int} (h : (Lit.int .i64 n).wf = true) : -9223372036854775808 ≤ n ∧ n ≤ 9223372036854775807 := bounds_i64 h

set_option maxRecDepth 100000 in
/-- a request that came in -/
theorem open_req {H : Type} {enc : TypeId × Value → H} {W : World} (fuel : Nat) (cs : List Value) (x : DataW H × List MemPlace) (h : DataW.trod enc Tryd.prog W 0 (fun _ => true) true fuel 39 cs = some x) :
    ∃ (kd : Int) (tn us sp : ByteArray) (run num : Int) (tx : ByteArray), cs = [.int .i64 kd, .string tn, .string us, .string sp, .int .i64 run, .int .i64 num, .string tx] ∧ tn.size ≤ 9223372036854775807 ∧ us.size ≤ 9223372036854775807 ∧ sp.size ≤ 9223372036854775807 ∧ tx.size ≤ 9223372036854775807 := by
  obtain ⟨xs, n, rfl, rfl, hl, hlen, hf⟩ := DataW.trod_struct Tryd.underlying39 h
  rw [cells44] at hl
  match xs, hlen, cs, hl with
  | [y0, y1, y2, y3, y4, y5, y6], _, [c0, c1, c2, c3, c4, c5, c6], _ =>
    have g0 := hf 0 _ rfl
    have g1 := hf 1 _ rfl
    have g2 := hf 2 _ rfl
    have g3 := hf 3 _ rfl
    have g4 := hf 4 _ rfl
    have g5 := hf 5 _ rfl
    have g6 := hf 6 _ rfl
    simp [cells3, cells9] at g0 g1 g2 g3 g4 g5 g6
    obtain ⟨kd, e0, -, -⟩ := DataW.trod_int Tryd.underlying3 g0
    obtain ⟨tn, e1, -, w1⟩ := DataW.trod_string Tryd.underlying9 g1
    obtain ⟨us, e2, -, w2⟩ := DataW.trod_string Tryd.underlying9 g2
    obtain ⟨sp, e3, -, w3⟩ := DataW.trod_string Tryd.underlying9 g3
    obtain ⟨run, e4, -, -⟩ := DataW.trod_int Tryd.underlying3 g4
    obtain ⟨num, e5, -, -⟩ := DataW.trod_int Tryd.underlying3 g5
    obtain ⟨tx, e6, -, w6⟩ := DataW.trod_string Tryd.underlying9 g6
    simp at e0 e1 e2 e3 e4 e5 e6
    subst e0 e1 e2 e3 e4 e5 e6
    unfold maxLen at w1 w2 w3 w6
    exact ⟨kd, tn, us, sp, run, num, tx, rfl, by omega, by omega, by omega, by omega⟩
end Go.Proofs.YtgidhfcnjboieaaDoor
