/- Entries that came in. -/
import Derived.Test.YtfdhopkjblbkmaaDoorK0
import Derived.Test.YtfdhopkjblbkmaaDoorQ1
namespace Go.Proofs.YtfdhopkjblbkmaaDoor
open Go.ChangeShapes Go.WideShapes Go.ChangeAt Go.RowKit

theorem cellsEntry : Tryd.prog.cellsOf 36 = 5 := by kernel_rfl

set_option maxRecDepth 100000 in
/-- an entry that came in -/
theorem open_entry {H : Type} {enc : TypeId × Value → H} {W : World} (fuel : Nat) (cs : List Value) (x : DataW H × List MemPlace) (h : DataW.trod enc Tryd.prog W 0 (fun _ => true) true fuel 36 cs = some x) :
    ∃ u : AE, cs = [.int .i64 u.seq, .string u.ten, .string u.wha, .string u.det, .string u.sum] ∧ u.ten.size ≤ 9223372036854775807 ∧ u.wha.size ≤ 9223372036854775807 ∧ u.det.size ≤ 9223372036854775807 ∧ u.sum.size ≤ 9223372036854775807 := by
  obtain ⟨xs, n, rfl, rfl, hl, hlen, hf⟩ := DataW.trod_struct Tryd.underlying36 h
  rw [cellsEntry] at hl
  match xs, hlen, cs, hl with
  | [y0, y1, y2, y3, y4], _, [c0, c1, c2, c3, c4], _ =>
    have g0 := hf 0 _ rfl
    have g1 := hf 1 _ rfl
    have g2 := hf 2 _ rfl
    have g3 := hf 3 _ rfl
    have g4 := hf 4 _ rfl
    simp [cells3, cells9] at g0 g1 g2 g3 g4
    obtain ⟨kd, e0, -, -⟩ := DataW.trod_int Tryd.underlying3 g0
    obtain ⟨t1, e1, -, w1⟩ := DataW.trod_string Tryd.underlying9 g1
    obtain ⟨t2, e2, -, w2⟩ := DataW.trod_string Tryd.underlying9 g2
    obtain ⟨t3, e3, -, w3⟩ := DataW.trod_string Tryd.underlying9 g3
    obtain ⟨t4, e4, -, w4⟩ := DataW.trod_string Tryd.underlying9 g4
    simp at e0 e1 e2 e3 e4
    subst e0 e1 e2 e3 e4
    unfold maxLen at w1 w2 w3 w4
    exact ⟨⟨kd, t1, t2, t3, t4⟩, rfl, by simp; omega, by simp; omega, by simp; omega, by simp; omega⟩

set_option maxRecDepth 100000 in
/-- entries that came in -/
theorem open_entries {H : Type} {enc : TypeId × Value → H} {W : World} {v : Value} {d : DataW H} {p : List MemPlace} (h : DataW.Trod enc Tryd.prog W 0 (fun _ => true) true 22 v d p) :
    ∃ (ao : Option Addr) (us : List AE) (cap : Nat), v.cells = #[.slice ao us.length cap] ∧ ELies W 0 ao us ∧ us.length ≤ 9223372036854775807 ∧ ESz us := by
  obtain ⟨fuel, hf⟩ := h
  rcases DataW.trod_slice Tryd.underlying22 hf with ⟨hc, _⟩ | ⟨a, len, cap, elems, rest, m, _, hc, _, _, hl2, hm, hel, hx, _⟩
  · refine ⟨none, [], 0, ?_, .inl rfl, by simp, fun u hu => by cases hu⟩
    rw [← Array.toArray_toList (xs := v.cells), hc]
    rfl
  · unfold maxLen at hm
    have hex : ∀ i : Nat, ∃ u : AE, i < len → W.cells? 0 (a.add (i * 5)) 5 = some [.int .i64 u.seq, .string u.ten, .string u.wha, .string u.det, .string u.sum] ∧ u.ten.size ≤ 9223372036854775807 ∧ u.wha.size ≤ 9223372036854775807 ∧ u.det.size ≤ 9223372036854775807 ∧ u.sum.size ≤ 9223372036854775807 := fun i => by
      by_cases hi : i < len
      · have key := hx i hi
        rw [List.getElem?_eq_getElem (by omega), cellsEntry] at key
        obtain ⟨cs', h1, h2⟩ := Option.bind_eq_some_iff.1 key
        obtain ⟨u, rfl, q⟩ := open_entry m cs' _ h2
        exact ⟨u, fun _ => ⟨h1, q⟩⟩
      · exact ⟨⟨0, ByteArray.empty, ByteArray.empty, ByteArray.empty, ByteArray.empty⟩, fun h => absurd h hi⟩
    obtain ⟨f, hfY⟩ := Classical.skolem.1 hex
    have hks : ((List.range len).map f).length = len := by simp
    refine ⟨some a, (List.range len).map f, cap, ?_, ?_, by simp; omega, fun u hu => ?_⟩
    · rw [hks, ← Array.toArray_toList (xs := v.cells), hc]
    · by_cases h0 : len = 0
      · exact .inl (by simp [h0])
      obtain ⟨ab, o, spot⟩ := a
      have hspot : spot = none := by
        have hc1 := (World.cells?_some (hfY 0 (by omega)).1)
        obtain ⟨_, hlen0, hcell0⟩ := hc1
        have hq := hcell0 0 (by omega)
        rw [List.getElem?_eq_getElem (by simp)] at hq
        simpa [Addr.add] using World.cell?_spot hq
      subst hspot
      refine .inr ⟨ab, o, rfl, Nat.zero_le _, fun j hj => ?_⟩
      have hj' : j < len := by simpa using hj
      obtain ⟨h1, _⟩ := hfY j hj'
      obtain ⟨_, hlenj, hcellj⟩ := World.cells?_some h1
      have e0 := hcellj 0 (by omega)
      have e1 := hcellj 1 (by omega)
      have e2 := hcellj 2 (by omega)
      have e3 := hcellj 3 (by omega)
      have e4 := hcellj 4 (by omega)
      rw [Addr.add_lit, Addr.add_lit] at e0 e1 e2 e3 e4
      simp at e0 e1 e2 e3 e4
      have hg : ((List.range len).map f)[j] = f j := by simp
      rw [hg]
      exact ⟨e0, e1, e2, e3, e4⟩
    · obtain ⟨j, hj, rfl⟩ := List.mem_map.1 hu
      exact (hfY j (List.mem_range.1 hj)).2
end Go.Proofs.YtfdhopkjblbkmaaDoor
