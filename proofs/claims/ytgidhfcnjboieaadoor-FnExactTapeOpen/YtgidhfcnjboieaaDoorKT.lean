/- Lists of texts that came in. -/
import Derived.Test.YtgidhfcnjboieaaDoorK0
import Derived.Test.YtgidhfcnjboieaaDoorM1
namespace Go.Proofs.YtgidhfcnjboieaaDoor
open Go.ChangeShapes Go.WideShapes Go.ChangeAt Go.RowKit

theorem cells22 : Tryd.prog.cellsOf 23 = 1 := by kernel_rfl
/-- a list of texts that came in -/
theorem open_texts {H : Type} {enc : TypeId × Value → H} {W : World} {n : Nat} {c : Value} {x : DataW H × List MemPlace} (h : DataW.trod enc Tryd.prog W 0 (fun _ => true) true n 23 [c] = some x) :
    ∃ (an : Option Addr) (ns : List ByteArray) (cn : Nat), c = .slice an ns.length cn ∧ Lies W 0 an ns ∧ ns.length ≤ cn ∧ ns.length ≤ 9223372036854775807 ∧ ∀ s ∈ ns, s.size ≤ 9223372036854775807 := by
  rcases Deep.open_strs Tryd.underlying23 Tryd.underlying9 cells9 h with ⟨hc, _⟩ | ⟨a, len, cap, m, Sx, hc, _, hl, hm, hmm, _, hcell⟩
  · simp at hc
    exact ⟨none, [], 0, hc, .inl rfl, Nat.le_refl _, by simp, fun s hs => by cases hs⟩
  · simp at hc
    simp only [if_true] at hmm
    rw [hmm] at hcell
    clear hmm
    unfold maxLen at hm hcell
    refine ⟨some a, (List.range len).map Sx, cap, by simpa using hc, ?_, by simpa using hl, by simp; omega, fun s hs => ?_⟩
    · by_cases h0 : len = 0
      · exact .inl (by simp [h0])
      obtain ⟨ab, o, spot⟩ := a
      have hspot : spot = none := by simpa [Addr.add] using World.cell?_spot (hcell 0 (by omega)).1
      subst hspot
      refine .inr ⟨ab, o, rfl, Nat.zero_le _, fun j hj => ?_⟩
      have hj' : j < len := by simpa using hj
      have := (hcell j (by omega)).1
      rw [Addr.add_lit] at this
      rw [this]
      simp [hj']
    · obtain ⟨j, hj, rfl⟩ := List.mem_map.1 hs
      have hj2 := List.mem_range.1 hj
      have := (hcell j (by omega)).2
      omega

end Go.Proofs.YtgidhfcnjboieaaDoor
