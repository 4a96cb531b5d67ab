/- A value that came in, opened. -/
import Derived.Test.YtgmigloafcejdaaGreatDoorV0
import Derived.Test.YtgmigloafcejdaaGreatDoorRows
import Derived.ProofKit
import Derived.OpenShut
import Derived.OpenVars
import Derived.Deep.DeepHandedRow
import Derived.Deep.SlicePairs
import Derived.Deep.Strs
import Derived.Carry
import Derived.ChangeSlices
import Derived.Stop.LaidErr
namespace Go.Proofs.YtgmigloafcejdaaGreatDoor
open Go.ChangeShapes Go.WideShapes Go.ChangeAt Go.RowKit

theorem cells25 : Tryz.prog.cellsOf 39 = 5 := by kernel_rfl
theorem cells3 : Tryz.prog.cellsOf 3 = 1 := by kernel_rfl
theorem cells9 : Tryz.prog.cellsOf 9 = 1 := by kernel_rfl
theorem cells22 : Tryz.prog.cellsOf 24 = 1 := by kernel_rfl
theorem cells23 : Tryz.prog.cellsOf 37 = 1 := by kernel_rfl
theorem wf64 {n : Int} (h : (Lit.int .i64 n).wf = true) : -9223372036854775808 ≤ n ∧ n ≤ 9223372036854775807 := bounds_i64 h

/-- a list of texts that came in -/
theorem open_texts {H : Type} {enc : TypeId × Value → H} {W : World} {n : Nat} {c : Value} {x : DataW H × List MemPlace} (h : DataW.trod enc Tryz.prog W 0 (fun _ => true) true n 24 [c] = some x) :
    ∃ (an : Option Addr) (ns : List ByteArray) (cn : Nat), c = .slice an ns.length cn ∧ Lies W 0 an ns ∧ ns.length ≤ cn ∧ ns.length ≤ 9223372036854775807 ∧ ∀ s ∈ ns, s.size ≤ 9223372036854775807 := by
  rcases Deep.open_strs Tryz.underlying24 Tryz.underlying9 cells9 h with ⟨hc, _⟩ | ⟨a, len, cap, m, Sx, hc, _, hl, hm, hmm, _, hcell⟩
  · simp at hc
    exact ⟨none, [], 0, hc, .inl rfl, Nat.le_refl _, by simp, fun s hs => by cases hs⟩
  · simp at hc
    simp only [if_true] at hmm
    rw [hmm] at hcell
    clear hmm
    unfold maxLen at hm hcell
    refine ⟨some a, (List.range len).map Sx, cap, by simpa using hc, ?_, by simpa using hl, by simp; omega, fun s hs => ?_⟩
    · by_cases h0 : len = 0
      · exact .inl (by simp [h0])
      obtain ⟨ab, o, spot⟩ := a
      have hspot : spot = none := by simpa [Addr.add] using World.cell?_spot (hcell 0 (by omega)).1
      subst hspot
      refine .inr ⟨ab, o, rfl, Nat.zero_le _, fun j hj => ?_⟩
      have hj' : j < len := by simpa using hj
      have := (hcell j (by omega)).1
      rw [Addr.add_lit] at this
      rw [this]
      simp [hj']
    · obtain ⟨j, hj, rfl⟩ := List.mem_map.1 hs
      have hj2 := List.mem_range.1 hj
      have := (hcell j (by omega)).2
      omega

set_option maxRecDepth 100000 in
/-- a value that came in -/
theorem open_value {H : Type} {enc : TypeId × Value → H} {W : World} : ∀ (fuel : Nat) (cs : List Value) (x : DataW H × List MemPlace), DataW.trod enc Tryz.prog W 0 (fun _ => true) true fuel 39 cs = some x → ∃ T, VIn W 0 T cs := by
  intro fuel
  induction fuel using Nat.strongRecOn with
  | ind fuel ih =>
    intro cs x h
    obtain ⟨xs, n, rfl, rfl, hl, hlen, hf⟩ := DataW.trod_struct Tryz.underlying39 h
    rw [cells25] at hl
    match xs, hlen, cs, hl with
    | [y0, y1, y2, y3, y4], _, [c0, c1, c2, c3, c4], _ =>
      have g0 := hf 0 _ rfl
      have g1 := hf 1 _ rfl
      have g2 := hf 2 _ rfl
      have g3 := hf 3 _ rfl
      have g4 := hf 4 _ rfl
      simp [cells3, cells9, cells22, cells23] at g0 g1 g2 g3 g4
      obtain ⟨s, hs, -, ws⟩ := DataW.trod_int Tryz.underlying3 g0
      obtain ⟨z, hz, -, wz⟩ := DataW.trod_int Tryz.underlying3 g1
      obtain ⟨t, ht, -, wt⟩ := DataW.trod_string Tryz.underlying9 g2
      obtain ⟨an, ns, cn, rfl, hln, hcn, hnl, hsl⟩ := open_texts g3
      simp at hs hz ht
      subst hs hz ht
      have ⟨ws1, ws2⟩ := wf64 ws
      have ⟨wz1, wz2⟩ := wf64 wz
      unfold maxLen at wt
      rcases DataW.trod_slice Tryz.underlying37 g4 with ⟨hc, _⟩ | ⟨a, len, cap, elems, rest, m, rfl, hc, _, _, hl2, hm, hel, hx, _⟩
      · simp at hc
        subst hc
        exact ⟨.node s z t ns [], VIn.mk (ks := []) (fun _ => []) hln (.inl rfl) (fun j k hj => by simp at hj) hcn (Nat.le_refl _) (by omega) hnl (by simp) hsl ws1 ws2 wz1 wz2⟩
      · simp at hc
        subst hc
        unfold maxLen at hm
        have hex : ∀ i : Nat, ∃ y : VT × List Value, i < len → VIn W 0 y.1 y.2 ∧ W.cells? 0 (a.add (i * 5)) 5 = some y.2 := fun i => by
          by_cases hi : i < len
          · have key := hx i hi
            rw [List.getElem?_eq_getElem (by omega), cells25] at key
            obtain ⟨cs', h1, h2⟩ := Option.bind_eq_some_iff.1 key
            obtain ⟨T, hT⟩ := ih m (by omega) cs' _ h2
            exact ⟨(T, cs'), fun _ => ⟨hT, h1⟩⟩
          · exact ⟨(.node 0 0 ByteArray.empty [] [], []), fun h => absurd h hi⟩
        obtain ⟨f, hfY⟩ := Classical.skolem.1 hex
        have hks : ((List.range len).map fun i => (f i).1).length = len := by simp
        refine ⟨.node s z t ns ((List.range len).map fun i => (f i).1), ?_⟩
        have hv := VIn.mk (w := W) (base := 0) (s := s) (n := z) (t := t) (ns := ns) (ks := (List.range len).map fun i => (f i).1) (an := an) (ak := some a) (cn := cn) (ck := cap) (fun i => (f i).2) hln ?_ ?_ hcn (by simpa using hl2) (by omega) hnl (by simp; omega) hsl ws1 ws2 wz1 wz2
        · rw [hks] at hv
          exact hv
        · by_cases h0 : len = 0
          · exact .inl (by simp [h0])
          obtain ⟨ab, o, spot⟩ := a
          have hspot : spot = none := by
            have hc1 := (World.cells?_some (hfY 0 (by omega)).2)
            obtain ⟨_, hlen0, hcell0⟩ := hc1
            have hq := hcell0 0 (by omega)
            rw [List.getElem?_eq_getElem (by omega)] at hq
            simpa [Addr.add] using World.cell?_spot hq
          subst hspot
          refine .inr ⟨ab, o, rfl, Nat.zero_le _, fun j hj => ?_⟩
          have hj' : j < len := by simpa using hj
          obtain ⟨_, hlenj, hcellj⟩ := World.cells?_some (hfY j hj').2
          match hcs : (f j).2, hlenj with
          | [v0, v1, v2, v3, v4], _ =>
            rw [hcs] at hcellj
            have e0 := hcellj 0 (by omega)
            have e1 := hcellj 1 (by omega)
            have e2 := hcellj 2 (by omega)
            have e3 := hcellj 3 (by omega)
            have e4 := hcellj 4 (by omega)
            rw [Addr.add_lit, Addr.add_lit] at e0 e1 e2 e3 e4
            simp at e0 e1 e2 e3 e4
            exact ⟨v0, v1, v2, v3, v4, rfl, e0, e1, e2, e3, e4⟩
        · intro j k hj
          have hj2 := (List.getElem?_eq_some_iff.1 hj).1
          have hj' : j < len := by simpa using hj2
          have hk : k = (f j).1 := by
            rw [List.getElem?_map, List.getElem?_range hj'] at hj
            simpa using hj.symm
          rw [hk]
          exact (hfY j hj').1
end Go.Proofs.YtgmigloafcejdaaGreatDoor
