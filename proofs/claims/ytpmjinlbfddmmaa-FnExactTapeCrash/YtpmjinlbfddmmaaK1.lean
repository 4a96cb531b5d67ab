/- Users that came in. -/
import Derived.Test.YtpmjinlbfddmmaaK0
import Derived.Test.YtpmjinlbfddmmaaM2
namespace Go.Proofs.Ytpmjinlbfddmmaa
open Go.ChangeShapes Go.WideShapes Go.ChangeAt Go.RowKit

theorem cells67 : Try.prog.cellsOf 67 = 2 := by kernel_rfl
theorem cells22 : Try.prog.cellsOf 22 = 1 := by kernel_rfl

/-- a list of texts that came in -/
theorem open_texts {H : Type} {enc : TypeId × Value → H} {W : World} {n : Nat} {c : Value} {x : DataW H × List MemPlace} (h : DataW.trod enc Try.prog W 0 (fun _ => true) true n 22 [c] = some x) :
    ∃ (an : Option Addr) (ns : List ByteArray) (cn : Nat), c = .slice an ns.length cn ∧ Lies W 0 an ns ∧ ns.length ≤ cn ∧ ns.length ≤ 9223372036854775807 ∧ ∀ s ∈ ns, s.size ≤ 9223372036854775807 := by
  rcases Deep.open_strs Try.underlying22 Try.underlying9 cells9 h with ⟨hc, _⟩ | ⟨a, len, cap, m, Sx, hc, _, hl, hm, hmm, _, hcell⟩
  · simp at hc
    exact ⟨none, [], 0, hc, .inl rfl, Nat.le_refl _, by simp, fun s hs => by cases hs⟩
  · simp at hc
    simp only [if_true] at hmm
    rw [hmm] at hcell
    clear hmm
    unfold maxLen at hm hcell
    refine ⟨some a, (List.range len).map Sx, cap, by simpa using hc, ?_, by simpa using hl, by simp; omega, fun s hs => ?_⟩
    · by_cases h0 : len = 0
      · exact .inl (by simp [h0])
      obtain ⟨ab, o, spot⟩ := a
      have hspot : spot = none := by simpa [Addr.add] using World.cell?_spot (hcell 0 (by omega)).1
      subst hspot
      refine .inr ⟨ab, o, rfl, Nat.zero_le _, fun j hj => ?_⟩
      have hj' : j < len := by simpa using hj
      have := (hcell j (by omega)).1
      rw [Addr.add_lit] at this
      rw [this]
      simp [hj']
    · obtain ⟨j, hj, rfl⟩ := List.mem_map.1 hs
      have hj2 := List.mem_range.1 hj
      have := (hcell j (by omega)).2
      omega

set_option maxRecDepth 100000 in
/-- a user that came in -/
theorem open_user {H : Type} {enc : TypeId × Value → H} {W : World} (fuel : Nat) (cs : List Value) (x : DataW H × List MemPlace) (h : DataW.trod enc Try.prog W 0 (fun _ => true) true fuel 67 cs = some x) :
    ∃ (u : ByteArray × List ByteArray) (ar : Option Addr) (cr : Nat), cs = [.string u.1, .slice ar u.2.length cr] ∧ Lies W 0 ar u.2 ∧ u.1.size ≤ 9223372036854775807 ∧ u.2.length ≤ 9223372036854775807 ∧ ∀ s ∈ u.2, s.size ≤ 9223372036854775807 := by
  obtain ⟨xs, n, rfl, rfl, hl, hlen, hf⟩ := DataW.trod_struct Try.underlying67 h
  rw [cells67] at hl
  match xs, hlen, cs, hl with
  | [y0, y1], _, [c0, c1], _ =>
    have g0 := hf 0 _ rfl
    have g1 := hf 1 _ rfl
    simp [cells9, cells22] at g0 g1
    obtain ⟨t, e0, -, w0⟩ := DataW.trod_string Try.underlying9 g0
    obtain ⟨an, ns, cn, rfl, hln, hcn, hnl, hsl⟩ := open_texts g1
    simp at e0
    subst e0
    unfold maxLen at w0
    exact ⟨(t, ns), an, cn, rfl, hln, by simp; omega, hnl, hsl⟩

set_option maxRecDepth 100000 in
/-- users that came in -/
theorem open_users {H : Type} {enc : TypeId × Value → H} {W : World} {v : Value} {d : DataW H} {p : List MemPlace} (h : DataW.Trod enc Try.prog W 0 (fun _ => true) true 34 v d p) :
    ∃ (ao : Option Addr) (us : List (ByteArray × List ByteArray)) (cap : Nat), v.cells = #[.slice ao us.length cap] ∧ ULies W 0 ao us ∧ us.length ≤ 9223372036854775807 ∧ USz us := by
  obtain ⟨fuel, hf⟩ := h
  rcases DataW.trod_slice Try.underlying34 hf with ⟨hc, _⟩ | ⟨a, len, cap, elems, rest, m, _, hc, _, _, hl2, hm, hel, hx, _⟩
  · refine ⟨none, [], 0, ?_, .inl rfl, by simp, fun u hu => by cases hu⟩
    rw [← Array.toArray_toList (xs := v.cells), hc]
    rfl
  · unfold maxLen at hm
    have hex : ∀ i : Nat, ∃ y : (ByteArray × List ByteArray) × Option Addr × Nat, i < len → W.cells? 0 (a.add (i * 2)) 2 = some [.string y.1.1, .slice y.2.1 y.1.2.length y.2.2] ∧ Lies W 0 y.2.1 y.1.2 ∧ y.1.1.size ≤ 9223372036854775807 ∧ y.1.2.length ≤ 9223372036854775807 ∧ ∀ s ∈ y.1.2, s.size ≤ 9223372036854775807 := fun i => by
      by_cases hi : i < len
      · have key := hx i hi
        rw [List.getElem?_eq_getElem (by omega), cells67] at key
        obtain ⟨cs', h1, h2⟩ := Option.bind_eq_some_iff.1 key
        obtain ⟨u, ar, cr, rfl, q⟩ := open_user m cs' _ h2
        exact ⟨(u, ar, cr), fun _ => ⟨h1, q⟩⟩
      · exact ⟨((ByteArray.empty, []), none, 0), fun h => absurd h hi⟩
    obtain ⟨f, hfY⟩ := Classical.skolem.1 hex
    have hks : ((List.range len).map fun i => (f i).1).length = len := by simp
    refine ⟨some a, (List.range len).map fun i => (f i).1, cap, ?_, ?_, by simp; omega, fun u hu => ?_⟩
    · rw [hks, ← Array.toArray_toList (xs := v.cells), hc]
    · by_cases h0 : len = 0
      · exact .inl (by simp [h0])
      obtain ⟨ab, o, spot⟩ := a
      have hspot : spot = none := by
        have hc1 := (World.cells?_some (hfY 0 (by omega)).1)
        obtain ⟨_, hlen0, hcell0⟩ := hc1
        have hq := hcell0 0 (by omega)
        rw [List.getElem?_eq_getElem (by simp)] at hq
        simpa [Addr.add] using World.cell?_spot hq
      subst hspot
      refine .inr ⟨ab, o, rfl, Nat.zero_le _, fun j hj => ?_⟩
      have hj' : j < len := by simpa using hj
      obtain ⟨h1, h2, _⟩ := hfY j hj'
      obtain ⟨_, hlenj, hcellj⟩ := World.cells?_some h1
      have e0 := hcellj 0 (by omega)
      have e1 := hcellj 1 (by omega)
      rw [Addr.add_lit, Addr.add_lit] at e0 e1
      simp at e0 e1
      refine ⟨(f j).2.1, (f j).2.2, ?_⟩
      have hg : ((List.range len).map fun i => (f i).1)[j] = (f j).1 := by simp
      rw [hg]
      exact ⟨e0, e1, h2⟩
    · obtain ⟨j, hj, rfl⟩ := List.mem_map.1 hu
      exact (hfY j (List.mem_range.1 hj)).2.2
end Go.Proofs.Ytpmjinlbfddmmaa
