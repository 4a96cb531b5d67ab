/- A tape that came in. -/
import Derived.Test.YtgidhfcnjboieaaDoorKT
namespace Go.Proofs.YtgidhfcnjboieaaDoor
open Go.ChangeShapes Go.WideShapes Go.ChangeAt Go.RowKit

theorem cells24 : Tryd.prog.cellsOf 31 = 2 := by kernel_rfl

set_option maxRecDepth 100000 in
/-- a tape that came in -/
theorem open_tape {H : Type} {enc : TypeId × Value → H} {W : World} (fuel : Nat) (cs : List Value) (x : DataW H × List MemPlace) (h : DataW.trod enc Tryd.prog W 0 (fun _ => true) true fuel 31 cs = some x) :
    ∃ (a1 a2 : Option Addr) (c1 c2 : Nat) (ss ls : List ByteArray), cs = [.slice a1 ss.length c1, .slice a2 ls.length c2] ∧ Lies W 0 a1 ss ∧ Lies W 0 a2 ls ∧ ss.length ≤ 9223372036854775807 ∧ ls.length ≤ 9223372036854775807 ∧ (∀ s ∈ ss, s.size ≤ 9223372036854775807) ∧ ∀ s ∈ ls, s.size ≤ 9223372036854775807 := by
  obtain ⟨xs, n, rfl, rfl, hl, hlen, hf⟩ := DataW.trod_struct Tryd.underlying31 h
  rw [cells24] at hl
  match xs, hlen, cs, hl with
  | [y0, y1], _, [c0, c1], _ =>
    have g0 := hf 0 _ rfl
    have g1 := hf 1 _ rfl
    simp [cells22] at g0 g1
    obtain ⟨a1, ss, k1, rfl, hl1, -, hn1, hz1⟩ := open_texts g0
    obtain ⟨a2, ls, k2, rfl, hl2, -, hn2, hz2⟩ := open_texts g1
    exact ⟨a1, a2, k1, k2, ss, ls, rfl, hl1, hl2, hn1, hn2, hz1, hz2⟩
end Go.Proofs.YtgidhfcnjboieaaDoor
