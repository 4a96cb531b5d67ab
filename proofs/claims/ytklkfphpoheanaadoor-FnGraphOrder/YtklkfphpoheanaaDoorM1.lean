/- The library's heap over a row of numbers: Len, Less, Swap, up, down. -/
import Derived.Test.YtklkfphpoheanaaDoorP3
import Derived.Test.YtklkfphpoheanaaDoorG4
namespace Go.Proofs.YtklkfphpoheanaaDoor
open Go.RowKit

theorem len_any (w : World) (ta : Option Addr) (n cp : Nat) : Calls Tryd.prog 36 #[.slice ta n cp] w fun e w' => e = .returned (.int .i64 (n : Int)) ∧ w' = w := by
  go_enter Tryd.func36, Tryd.ntmps36
  go_wp2
  go_ret
  exact ⟨rfl, rfl⟩

theorem less_any (w : World) (L : List Int) (g cp : Nat) (hc : ∀ j, j < L.length → w.cell? ⟨g, j, none⟩ = some (.int .i64 (L.getD j 0))) (i j : Nat) (hi : i < L.length) (hj : j < L.length) :
    Calls Tryd.prog 69 #[.slice (some ⟨g, 0, none⟩) L.length cp, .int .i64 (i : Int), .int .i64 (j : Int)] w fun e w' => e = .returned (.bool (decide (L.getD i 0 < L.getD j 0))) ∧ ∃ m, w' = w.drewN m := by
  have d1 := hc i hi
  have d2 := hc j hj
  have hiI : (i : Int) < L.length := by omega
  have hjI : (j : Int) < L.length := by omega
  generalize L.getD i 0 = x at *
  generalize L.getD j 0 = y at *
  clear hc
  go_enter Tryd.func69, Tryd.ntmps69
  go_wp2
  go_quiet (fail)
  go_wp2
  go_ret
  exact ⟨rfl, _, rfl⟩

theorem ints_set (L : List Int) (i : Nat) (x : Int) : ints (L.set i x) = (ints L).set i (.int .i64 x) := by simp [ints, List.map_set]

set_option maxRecDepth 100000 in
set_option maxHeartbeats 1000000 in
theorem swap_any (w : World) (L : List Int) (g cp : Nat) (hc : ∀ j, j < L.length → w.cell? ⟨g, j, none⟩ = some (.int .i64 (L.getD j 0))) (hf : ∀ j, j < L.length → w.frozen? ⟨g, j, none⟩ = false) (i j : Nat) (hi : i < L.length) (hj : j < L.length) :
    Calls Tryd.prog 71 #[.slice (some ⟨g, 0, none⟩) L.length cp, .int .i64 (i : Int), .int .i64 (j : Int)] w fun e w' => (∃ v, e = .returned v) ∧ ∃ m, w' = ((w.setCell ⟨g, i, none⟩ (.int .i64 (L.getD j 0))).setCell ⟨g, j, none⟩ (.int .i64 (L.getD i 0))).drewN m := by
  by_cases hij : i = j
  · subst hij
    have d1 := hc i hi
    have f1 := hf i hi
    have hiI : (i : Int) < L.length := by omega
    generalize L.getD i 0 = x at *
    clear hc hf
    go_enter Tryd.func71, Tryd.ntmps71
    go_wp2
    go_region
    all_goals
      go_wp2
      go_end0
      exact ⟨⟨_, rfl⟩, 1, rfl⟩
  · have hji : ¬ j = i := fun e => hij e.symm
    have d1 := hc i hi
    have d2 := hc j hj
    have f1 := hf i hi
    have f2 := hf j hj
    have hiI : (i : Int) < L.length := by omega
    have hjI : (j : Int) < L.length := by omega
    generalize L.getD i 0 = x at *
    generalize L.getD j 0 = y at *
    clear hc hf
    go_enter Tryd.func71, Tryd.ntmps71
    go_wp2
    go_region
    all_goals
      go_wp2
      go_end0
      exact ⟨⟨_, rfl⟩, 1, rfl⟩

/-- a row that lies in a block, opened -/
theorem row_at {w : World} {base g n cp : Nat} {M : List Int} (h : Row w base (.slice (some ⟨g, 0, none⟩) n cp) (ints M)) : M.length = n ∧ n ≤ cp ∧ (∀ j, j < M.length → w.cell? ⟨g, j, none⟩ = some (.int .i64 (M.getD j 0))) ∧ (∀ j, j < M.length → w.frozen? ⟨g, j, none⟩ = false) ∧ base ≤ g ∧ g < w.heap.size := by
  rcases h with ⟨h0, _⟩ | ⟨g', cap, he, hb, hl, hn, hc, hf⟩
  · cases h0
  · rw [ints_len] at *
    cases he
    refine ⟨rfl, hn, fun j hj => ?_, fun j hj => (hf j (by omega)).2, hb, hl⟩
    rw [hc j hj]
    simp [ints, hj]
/-- what a row is behind an exchange -/
theorem row_swap {w : World} {base g cp : Nat} {L : List Int} (h : Row w base (.slice (some ⟨g, 0, none⟩) L.length cp) (ints L)) (i j : Nat) (hi : i < L.length) (hj : j < L.length) :
    Row ((w.setCell ⟨g, i, none⟩ (.int .i64 (L.getD j 0))).setCell ⟨g, j, none⟩ (.int .i64 (L.getD i 0))) base (.slice (some ⟨g, 0, none⟩) L.length cp) (ints (swapL L i j)) := by
  rcases h with ⟨h0, _⟩ | ⟨g', cap, he, hb, hl, hn, hc, hf⟩
  · cases h0
  · have hll := swapL_len L i j
    rw [ints_len] at *
    cases he
    have hs : ∀ (W : World) (q : Nat) (x : Int), (∀ k, k < cp → (W.cell? ⟨g, k, none⟩).isSome = true ∧ W.frozen? ⟨g, k, none⟩ = false) → ∀ k, k < cp → ((W.setCell ⟨g, q, none⟩ (.int .i64 x)).cell? ⟨g, k, none⟩).isSome = true ∧ (W.setCell ⟨g, q, none⟩ (.int .i64 x)).frozen? ⟨g, k, none⟩ = false := fun W q x h k hk => by
      refine ⟨?_, by rw [World.frozen?_setCell]; exact (h k hk).2⟩
      by_cases hkq : k = q
      · subst hkq; rw [World.cell?_setCell_same' _ _ _ (h k hk).1]; rfl
      · rw [World.cell?_setCell_other _ _ _ _ (by intro e; cases e; exact hkq rfl)]; exact (h k hk).1
    have hf1 := hs w i (L.getD j 0) hf
    refine .inr ⟨g, cp, by rw [ints_len, hll], hb, by simp [World.setCell]; exact hl, by rw [ints_len, hll]; exact hn, fun k hk => ?_, hs _ j _ hf1⟩
    rw [ints_len, hll] at hk
    have hget : (ints (swapL L i j))[k]? = some (.int .i64 ((swapL L i j).getD k 0)) := by simp [ints, hll, hk]
    rw [hget, swapL_get L i j k hi hj]
    by_cases h1 : k = j
    · subst h1
      rw [if_pos rfl]
      exact World.cell?_setCell_same' _ _ _ (hf1 k (by omega)).1
    · rw [if_neg h1, World.cell?_setCell_other _ _ _ _ (by intro e; cases e; exact h1 rfl)]
      by_cases h2 : k = i
      · subst h2
        rw [if_pos rfl]
        exact World.cell?_setCell_same' _ _ _ (hf k (by omega)).1
      · rw [if_neg h2, World.cell?_setCell_other _ _ _ _ (by intro e; cases e; exact h2 rfl), hc k hk]
        simp [ints, hk]

theorem less_at (W : World) (M : List Int) (n g cp : Nat) (hlen : M.length = n) (hc : ∀ j, j < M.length → W.cell? ⟨g, j, none⟩ = some (.int .i64 (M.getD j 0))) (i j : Nat) (hi : i < n) (hj : j < n) (b : Bool) (hb : decide (M.getD i 0 < M.getD j 0) = b) :
    Calls Tryd.prog 69 #[.slice (some ⟨g, 0, none⟩) n cp, .int .i64 (i : Int), .int .i64 (j : Int)] W fun e w' => e = .returned (.bool b) ∧ ∃ m, w' = W.drewN m := by
  subst hlen hb
  exact less_any W M g cp hc i j hi hj
theorem swap_at (W : World) (M : List Int) (n base g cp : Nat) (hr : Row W base (.slice (some ⟨g, 0, none⟩) n cp) (ints M)) (i j : Nat) (hi : i < n) (hj : j < n) :
    Calls Tryd.prog 71 #[.slice (some ⟨g, 0, none⟩) n cp, .int .i64 (i : Int), .int .i64 (j : Int)] W fun e w' => (∃ v, e = .returned v) ∧ Row w' base (.slice (some ⟨g, 0, none⟩) n cp) (ints (swapL M i j)) ∧ W.grownBy w' (some g) := by
  obtain ⟨rfl, -, hcc, hfr, -, -⟩ := row_at hr
  refine (swap_any W M g cp hcc hfr i j hi hj).mono ?_
  rintro e w' ⟨hv, m2, rfl⟩
  exact ⟨hv, (row_swap hr i j hi hj).drewN m2, grown_drewN (grown_set (grown_set (grown_refl _ _) _ _) _ _) _⟩

end Go.Proofs.YtklkfphpoheanaaDoor
