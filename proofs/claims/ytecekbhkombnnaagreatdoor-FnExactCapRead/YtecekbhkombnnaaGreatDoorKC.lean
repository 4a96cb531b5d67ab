/- A credential that came in. -/
import Derived.Test.YtecekbhkombnnaaGreatDoorM1
import Derived.Test.YtecekbhkombnnaaGreatDoorRows
import Derived.ProofKit
import Derived.OpenShut
import Derived.OpenVars
import Derived.Deep.DeepHandedRow
import Derived.Deep.SlicePairs
import Derived.Deep.Strs
import Derived.Carry
import Derived.ChangeSlices
import Derived.Stop.LaidErr
namespace Go.Proofs.YtecekbhkombnnaaGreatDoor
open Go.ChangeShapes Go.WideShapes Go.ChangeAt Go.RowKit

theorem cellsCap : Tryz.prog.cellsOf 24 = 7 := by kernel_rfl
theorem cells3 : Tryz.prog.cellsOf 3 = 1 := by kernel_rfl
theorem cells9 : Tryz.prog.cellsOf 9 = 1 := by kernel_rfl
theorem cells22 : Tryz.prog.cellsOf 22 = 1 := by kernel_rfl
/-- a list of texts that came in -/
theorem open_texts {H : Type} {enc : TypeId × Value → H} {W : World} {n : Nat} {c : Value} {x : DataW H × List MemPlace} (h : DataW.trod enc Tryz.prog W 0 (fun _ => true) true n 22 [c] = some x) :
    ∃ (an : Option Addr) (ns : List ByteArray) (cn : Nat), c = .slice an ns.length cn ∧ Lies W 0 an ns ∧ ns.length ≤ cn ∧ ns.length ≤ 9223372036854775807 ∧ ∀ s ∈ ns, s.size ≤ 9223372036854775807 := by
  rcases Deep.open_strs Tryz.underlying22 Tryz.underlying9 cells9 h with ⟨hc, _⟩ | ⟨a, len, cap, m, Sx, hc, _, hl, hm, hmm, _, hcell⟩
  · simp at hc
    exact ⟨none, [], 0, hc, .inl rfl, Nat.le_refl _, by simp, fun s hs => by cases hs⟩
  · simp at hc
    simp only [if_true] at hmm
    rw [hmm] at hcell
    clear hmm
    unfold maxLen at hm hcell
    refine ⟨some a, (List.range len).map Sx, cap, by simpa using hc, ?_, by simpa using hl, by simp; omega, fun s hs => ?_⟩
    · by_cases h0 : len = 0
      · exact .inl (by simp [h0])
      obtain ⟨ab, o, spot⟩ := a
      have hspot : spot = none := by simpa [Addr.add] using World.cell?_spot (hcell 0 (by omega)).1
      subst hspot
      refine .inr ⟨ab, o, rfl, Nat.zero_le _, fun j hj => ?_⟩
      have hj' : j < len := by simpa using hj
      have := (hcell j (by omega)).1
      rw [Addr.add_lit] at this
      rw [this]
      simp [hj']
    · obtain ⟨j, hj, rfl⟩ := List.mem_map.1 hs
      have hj2 := List.mem_range.1 hj
      have := (hcell j (by omega)).2
      omega


set_option maxRecDepth 100000 in
/-- a credential that came in -/
theorem open_cap {H : Type} {enc : TypeId × Value → H} {W : World} (fuel : Nat) (cs : List Value) (x : DataW H × List MemPlace) (h : DataW.trod enc Tryz.prog W 0 (fun _ => true) true fuel 24 cs = some x) :
    ∃ (tn sp : ByteArray) (run frm unt : Int) (ao : Option Addr) (cp : Nat) (ls : List ByteArray) (se : ByteArray), cs = [.string tn, .string sp, .int .i64 run, .int .i64 frm, .int .i64 unt, .slice ao ls.length cp, .string se] ∧ Lies W 0 ao ls ∧ ls.length ≤ 9223372036854775807 ∧ (∀ s ∈ ls, s.size ≤ 9223372036854775807) ∧ tn.size ≤ 9223372036854775807 ∧ sp.size ≤ 9223372036854775807 ∧ se.size ≤ 9223372036854775807 := by
  obtain ⟨xs, n, rfl, rfl, hl, hlen, hf⟩ := DataW.trod_struct Tryz.underlying24 h
  rw [cellsCap] at hl
  match xs, hlen, cs, hl with
  | [y0, y1, y2, y3, y4, y5, y6], _, [c0, c1, c2, c3, c4, c5, c6], _ =>
    have g0 := hf 0 _ rfl
    have g1 := hf 1 _ rfl
    have g2 := hf 2 _ rfl
    have g3 := hf 3 _ rfl
    have g4 := hf 4 _ rfl
    have g5 := hf 5 _ rfl
    have g6 := hf 6 _ rfl
    simp [cells3, cells9, cells22] at g0 g1 g2 g3 g4 g5 g6
    obtain ⟨tn, e0, -, w0⟩ := DataW.trod_string Tryz.underlying9 g0
    obtain ⟨sp, e1, -, w1⟩ := DataW.trod_string Tryz.underlying9 g1
    obtain ⟨run, e2, -, -⟩ := DataW.trod_int Tryz.underlying3 g2
    obtain ⟨frm, e3, -, -⟩ := DataW.trod_int Tryz.underlying3 g3
    obtain ⟨unt, e4, -, -⟩ := DataW.trod_int Tryz.underlying3 g4
    obtain ⟨ao, ls, cp, e5, hl5, -, hn5, hz5⟩ := open_texts g5
    obtain ⟨se, e6, -, w6⟩ := DataW.trod_string Tryz.underlying9 g6
    simp at e0 e1 e2 e3 e4 e5 e6
    subst e0 e1 e2 e3 e4 e5 e6
    unfold maxLen at w0 w1 w6
    exact ⟨tn, sp, run, frm, unt, ao, cp, ls, se, rfl, hl5, hn5, hz5, by omega, by omega, by omega⟩
end Go.Proofs.YtecekbhkombnnaaGreatDoor
