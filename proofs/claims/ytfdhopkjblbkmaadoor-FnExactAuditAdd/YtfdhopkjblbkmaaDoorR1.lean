/- Rows of numbers. No program is named here. -/
import Derived.Test.YtfdhopkjblbkmaaDoorR0
namespace Go.Proofs.YtfdhopkjblbkmaaDoor
open Go.RowKit

theorem news_new (w : World) (t : TypeId) (L : List Value) : ∀ j u, L[j]? = some u → (w.alloc (.cells L.toArray t)).cell? ((⟨w.heap.size, 0, none⟩ : Addr).add j) = some u := fun j u hu => by
  rw [Addr.add_mid, Nat.zero_add]; exact (Blk.new w t L).cell hu
theorem grown_own {a w w' : World} {row : Option Nat} {r : Option Nat} (h : a.grownBy w r) (k : w.grownBy w' row) (hb : ∀ q, row = some q → a.heap.size ≤ q) : a.grownBy w' r :=
  ⟨k.os.trans h.os, k.tape.trans h.tape, k.output.trans h.output, Nat.le_trans h.size k.size, fun i hi hr => (k.block i (Nat.lt_of_lt_of_le hi h.size) (fun e => by have := hb i e.symm; omega)).trans (h.block i hi hr)⟩
theorem info_parts {P : Program} {t : TypeId} {z : Value} {s b : Nat} (h : (P.info? t).map (fun i => (i.zero, i.size, i.bytes)) = some (some z, s, b)) : ∃ i, P.info? t = some i ∧ i.zero = some z ∧ i.size = s ∧ i.bytes = b := by
  cases hq : P.info? t with
  | none => simp [hq] at h
  | some i =>
    simp [hq] at h
    exact ⟨i, rfl, h.1, h.2.1, h.2.2⟩
def ints (L : List Int) : List Value := L.map (Value.int .i64)
theorem ints_one (L : List Int) : ∀ v ∈ ints L, v.oneCell' = true := fun v hv => by
  obtain ⟨s, _, rfl⟩ := List.mem_map.1 hv
  rfl
theorem ints_len (L : List Int) : (ints L).length = L.length := by simp [ints]
theorem ints_app (L M : List Int) : ints (L ++ M) = ints L ++ ints M := by simp [ints]
/-- a row of numbers, opened -/
theorem row_ints {w : World} {base : Nat} {v : Value} {L : List Int} (h : Row w base v (ints L)) : ∃ ta g cp, v = .slice ta L.length cp ∧ L.length ≤ cp ∧ (0 < L.length → ta = some ⟨g, 0, none⟩) ∧ (∀ j, j < L.length → w.cell? ⟨g, j, none⟩ = some (.int .i64 (L.getD j 0))) ∧ (∀ j, j < L.length → w.frozen? ⟨g, j, none⟩ = false) ∧ (0 < L.length → base ≤ g ∧ g < w.heap.size) ∧ (0 < L.length → v.ownBlock = some g) := by
  rcases h with ⟨rfl, h0⟩ | ⟨g, cap, rfl, hb, hl, hn, hc, hf⟩
  · have : L = [] := by simpa [ints] using h0
    subst this
    exact ⟨none, 0, 0, rfl, by simp, fun h => absurd h (by simp), fun j hj => absurd hj (by simp), fun j hj => absurd hj (by simp), fun h => absurd h (by simp), fun h => absurd h (by simp)⟩
  · rw [ints_len] at *
    refine ⟨_, g, cap, rfl, hn, fun _ => rfl, fun j hj => ?_, fun j hj => (hf j (by omega)).2, fun _ => ⟨hb, hl⟩, fun _ => rfl⟩
    rw [hc j hj]
    simp [ints, hj]
/-- those below k of which p says yes, in order -/
def filtL (p : Nat → Bool) (k : Nat) : List Int := ((List.range k).filter p).map fun (j : Nat) => (j : Int)
theorem filtL_succ (p : Nat → Bool) (k : Nat) : filtL p (k + 1) = filtL p k ++ (if p k then [(k : Int)] else []) := by
  unfold filtL
  rw [List.range_succ, List.filter_append, List.map_append]
  cases h : p k <;> simp [h]
theorem filtL_len (p : Nat → Bool) (k : Nat) : (filtL p k).length ≤ k := by
  unfold filtL
  have := List.length_filter_le p (List.range k)
  simpa using this
theorem filtL_congr (p q : Nat → Bool) (k : Nat) (h : ∀ j, j < k → p j = q j) : filtL p k = filtL q k := by
  unfold filtL
  rw [List.filter_congr (fun x hx => h x (List.mem_range.1 hx))]

end Go.Proofs.YtfdhopkjblbkmaaDoor
