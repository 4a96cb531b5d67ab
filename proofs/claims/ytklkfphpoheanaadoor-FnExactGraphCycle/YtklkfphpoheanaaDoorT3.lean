/- Rows of numbers compared, marked, held. -/
import Derived.Test.YtklkfphpoheanaaDoorT1
namespace Go.Proofs.YtklkfphpoheanaaDoor
open Go.RowKit

set_option maxHeartbeats 1000000 in
theorem eqIntS_same (w : World) (L : List Int) (hl : L.length ≤ 1048576) (b1 b2 : Nat) (v1 v2 : Value) (h1 : Row w b1 v1 (ints L)) (h2 : Row w b2 v2 (ints L)) :
    Calls Tryd.prog 16 #[v1, v2] w fun e w' => e = .returned (.bool true) ∧ w.grownBy w' none := by
  obtain ⟨ta, g1, c1, rfl, -, hta, hc1, -⟩ := row_ints h1
  obtain ⟨tb, g2, c2, rfl, -, htb, hc2, -⟩ := row_ints h2
  have HTA := Lib.hid hta
  have HTB := Lib.hid htb
  have HC1 := Lib.hid hc1
  have HC2 := Lib.hid hc2
  clear h1 h2 hta htb hc1 hc2
  go_enter Tryd.func16, Tryd.ntmps16
  go_wp2
  go_loopw [5] (fun i wr => ∃ k : Nat, k ≤ L.length ∧ i = .int .i64 k ∧ w.grownBy wr none) (fun i _ => L.length - (intOf i).toNat)
  case atStart => exact ⟨0, Nat.zero_le _, rfl, grown_refl _ _⟩
  case round =>
    obtain ⟨k, hk, rfl, hg⟩ := hrel
    have HG := Lib.hid hg
    by_cases hlt : k < L.length
    · have e1 := HTA.out (by omega)
      have e2 := HTB.out (by omega)
      subst e1 e2
      have d1 := hg.cell (HC1.out k hlt) (by simp)
      have d2 := hg.cell (HC2.out k hlt) (by simp)
      generalize L.getD k 0 = x at d1 d2
      have hkI : (k : Int) < L.length := by omega
      clear hg
      go_wp2
      go_quiet (fail)
      go_wp2
      go_roundw
      case rel => exact ⟨k + 1, by omega, by go_num, grown_drewN HG.out _⟩
      case measure => simp [intOf]; omega
    · obtain rfl : k = L.length := by omega
      clear hg
      go_wp2
      go_ret
      exact ⟨rfl, HG.out⟩

/-- the marks 1, 2, .. -/
def marks (n : Nat) : List Int := (List.range n).map fun (j : Nat) => (j : Int) + 1
theorem marks_len (n : Nat) : (marks n).length = n := by simp [marks]
theorem marks_get (n j : Nat) (h : j < n) : (marks n).getD j 0 = (j : Int) + 1 := by
  unfold marks; simp [h]

set_option maxRecDepth 100000 in
set_option maxHeartbeats 1000000 in
theorem markIntS_nil (w : World) : Calls Tryd.prog 19 #[.slice none 0 0, .int .i64 1] w fun e w' => e = .returned (.int .i64 1) ∧ w' = w := by
  go_enter Tryd.func19, Tryd.ntmps19
  go_wp2
  go_loop [1, 5] (fun q i => i = .int .i64 0 ∧ q = .int .i64 1) (fun _ _ => 0)
  case atStart => exact ⟨rfl, rfl⟩
  case round =>
    obtain ⟨rfl, rfl⟩ := hrel
    go_wp2
    go_ret
    exact ⟨rfl, rfl⟩

set_option maxRecDepth 100000 in
set_option maxHeartbeats 1000000 in
theorem markIntS_any (w : World) (L : List Int) (hl : L.length ≤ 1048576) (base : Nat) (v : Value) (h : Row w base v (ints L)) :
    Calls Tryd.prog 19 #[v, .int .i64 1] w fun e w' => e = .returned (.int .i64 ((L.length : Int) + 1)) ∧ Row w' base v (ints (marks L.length)) ∧ w.grownBy w' v.ownBlock := by
  rcases h with ⟨rfl, h0⟩ | ⟨g, cap, rfl, hb, hgl, hn, hc, hf⟩
  · have : L = [] := by simpa [ints] using h0
    subst this
    refine (markIntS_nil w).mono ?_
    rintro e w' ⟨rfl, rfl⟩
    exact ⟨rfl, Row.nil _ _, grown_refl _ _⟩
  rw [ints_len] at *
  have HC := Lib.hid hc
  have HF := Lib.hid hf
  clear hc hf
  go_enter Tryd.func19, Tryd.ntmps19
  go_wp2
  go_loopw [1, 5] (fun q i wr => ∃ k : Nat, k ≤ L.length ∧ i = .int .i64 k ∧ q = .int .i64 ((k : Int) + 1) ∧ (∀ j, j < k → wr.cell? ⟨g, j, none⟩ = some (.int .i64 ((j : Int) + 1))) ∧ (∀ j, j < cap → (wr.cell? ⟨g, j, none⟩).isSome = true ∧ wr.frozen? ⟨g, j, none⟩ = false) ∧ w.grownBy wr (some g)) (fun _ i _ => L.length - (intOf i).toNat)
  case atStart => exact ⟨0, Nat.zero_le _, rfl, rfl, fun j hj => absurd hj (Nat.not_lt_zero _), HF.out, grown_refl _ _⟩
  case round =>
    obtain ⟨k, hk, rfl, rfl, hdone, hfz, hg⟩ := hrel
    have HD := Lib.hid hdone
    have HFZ := Lib.hid hfz
    have HG := Lib.hid hg
    clear hdone hfz hg
    by_cases hlt : k < L.length
    · have d2 := (HFZ.out k (by omega)).2
      obtain ⟨x, d1⟩ := Option.isSome_iff_exists.1 (HFZ.out k (by omega)).1
      have D1 := Lib.hid d1
      have hkI : (k : Int) < L.length := by omega
      go_wp2
      go_roundw
      case rel =>
        refine ⟨k + 1, by omega, by go_num, by go_num, fun j hj => ?_, fun j hj => ⟨?_, ?_⟩, grown_set HG.out _ _⟩
        · by_cases hjk : j = k
          · subst hjk; exact World.cell?_setCell_same' _ _ _ (by rw [D1.out]; rfl)
          · rw [World.cell?_setCell_other _ _ _ _ (by intro e; cases e; exact hjk rfl)]
            exact HD.out j (by omega)
        · by_cases hjk : j = k
          · subst hjk; rw [World.cell?_setCell_same' _ _ _ (by rw [D1.out]; rfl)]; rfl
          · rw [World.cell?_setCell_other _ _ _ _ (by intro e; cases e; exact hjk rfl)]
            exact (HFZ.out j hj).1
        · rw [World.frozen?_setCell]
          exact (HFZ.out j hj).2
      case measure => simp [intOf]; omega
    · obtain rfl : k = L.length := by omega
      go_wp2
      go_ret
      refine ⟨rfl, .inr ⟨g, cap, by rw [ints_len, marks_len], hb, Nat.lt_of_lt_of_le hgl HG.out.size, by rw [ints_len, marks_len]; exact hn, fun j hj => ?_, HFZ.out⟩, HG.out⟩
      rw [ints_len, marks_len] at hj
      rw [HD.out j hj]
      have := marks_get L.length j hj
      simp [ints, marks, hj]

set_option maxRecDepth 100000 in
set_option maxHeartbeats 1000000 in
theorem heldIntS_any (w : World) (n : Nat) (hl : n ≤ 1048576) (base : Nat) (v : Value) (h : Row w base v (ints (marks n))) :
    Calls Tryd.prog 20 #[v, .int .i64 1] w fun e w' => e = .returned (.int .i64 ((n : Int) + 1)) ∧ w' = w := by
  obtain ⟨ta, g1, c1, rfl, -, hta, hc1, -⟩ := row_ints h
  rw [marks_len] at *
  have HTA := Lib.hid hta
  have HC1 := Lib.hid hc1
  clear h hta hc1
  go_enter Tryd.func20, Tryd.ntmps20
  go_wp2
  go_loop [1, 5] (fun q i => ∃ k : Nat, k ≤ n ∧ i = .int .i64 k ∧ q = .int .i64 ((k : Int) + 1)) (fun _ i => n - (intOf i).toNat)
  case atStart => exact ⟨0, Nat.zero_le _, rfl, rfl⟩
  case round =>
    obtain ⟨k, hk, rfl, rfl⟩ := hrel
    by_cases hlt : k < n
    · have e1 := HTA.out (by omega)
      subst e1
      have d1 := HC1.out k hlt
      rw [marks_get n k hlt] at d1
      have hkI : (k : Int) < n := by omega
      go_wp2
      exact ⟨⟨k + 1, by omega, by go_num, by go_num⟩, by simp [intOf]; omega⟩
    · obtain rfl : k = n := by omega
      go_wp2
      go_ret
      exact ⟨rfl, rfl⟩

end Go.Proofs.YtklkfphpoheanaaDoor
