/- What the drawn law of GraphBelow asks. -/
import Derived.Test.YtklkfphpoheanaaDoorS5
import Derived.Test.YtklkfphpoheanaaDoorT1
namespace Go.Proofs.YtklkfphpoheanaaDoor
open Go.RowKit

set_option maxHeartbeats 1000000 in
theorem wsInts_same (w : World) (L : List Int) (hl : L.length ≤ 1048576) (b1 b2 : Nat) (v1 v2 : Value) (h1 : Row w b1 v1 (ints L)) (h2 : Row w b2 v2 (ints L)) :
    Calls Tryd.prog 10 #[v1, v2] w fun e w' => e = .returned (.bool true) ∧ w.grownBy w' none := by
  obtain ⟨ta, g1, c1, rfl, -, hta, hc1, -⟩ := row_ints h1
  obtain ⟨tb, g2, c2, rfl, -, htb, hc2, -⟩ := row_ints h2
  have HTA := Lib.hid hta
  have HTB := Lib.hid htb
  have HC1 := Lib.hid hc1
  have HC2 := Lib.hid hc2
  clear h1 h2 hta htb hc1 hc2
  go_enter Tryd.func10, Tryd.ntmps10
  go_wp2
  go_loopw [5] (fun i wr => ∃ k : Nat, k ≤ L.length ∧ i = .int .i64 k ∧ w.grownBy wr none) (fun i _ => L.length - (intOf i).toNat)
  case atStart => exact ⟨0, Nat.zero_le _, rfl, grown_refl _ _⟩
  case round =>
    obtain ⟨k, hk, rfl, hg⟩ := hrel
    have HG := Lib.hid hg
    by_cases hlt : k < L.length
    · have e1 := HTA.out (by omega)
      have e2 := HTB.out (by omega)
      subst e1 e2
      have d1 := hg.cell (HC1.out k hlt) (by simp)
      have d2 := hg.cell (HC2.out k hlt) (by simp)
      generalize L.getD k 0 = x at d1 d2
      have hkI : (k : Int) < L.length := by omega
      clear hg
      go_wp2
      go_quiet (fail)
      go_wp2
      go_roundw
      case rel => exact ⟨k + 1, by omega, by go_num, grown_drewN HG.out _⟩
      case measure => simp [intOf]; omega
    · obtain rfl : k = L.length := by omega
      clear hg
      go_wp2
      go_ret
      exact ⟨rfl, HG.out⟩

set_option maxHeartbeats 1000000 in
theorem wsHas_any (w : World) (L : List Int) (ta : Option Addr) (g cp : Nat) (hta : 0 < L.length → ta = some ⟨g, 0, none⟩) (hc : ∀ j, j < L.length → w.cell? ⟨g, j, none⟩ = some (.int .i64 (L.getD j 0))) (hl : L.length ≤ 1048576) (k : Int) :
    Calls Tryd.prog 12 #[.slice ta L.length cp, .int .i64 k] w fun e w' => e = .returned (.bool (decide (k ∈ L))) ∧ w' = w := by
  have HTA := Lib.hid hta
  have HC := Lib.hid hc
  clear hta hc
  go_enter Tryd.func12, Tryd.ntmps12
  go_wp2
  go_loop [5] (fun i => ∃ j : Nat, j ≤ L.length ∧ i = .int .i64 j ∧ ∀ q, q < j → L.getD q 0 ≠ k) (fun i => L.length - (intOf i).toNat)
  case atStart => exact ⟨0, Nat.zero_le _, rfl, fun q hq => absurd hq (Nat.not_lt_zero _)⟩
  case round =>
    obtain ⟨j, hj, rfl, hno⟩ := hrel
    have HNO := Lib.hid hno
    clear hno
    by_cases hlt : j < L.length
    · have e1 := HTA.out (by omega)
      subst e1
      have d0 := HC.out j hlt
      obtain ⟨x, hx⟩ : ∃ x, x = L.getD j 0 := ⟨_, rfl⟩
      rw [← hx] at d0
      have HX := Lib.hid hx
      have hjI : (j : Int) < L.length := by omega
      clear hx
      by_cases hxk : x = k
      · have hb : (x == k) = true := by simp [hxk]
        have HM := Lib.hid (show decide (k ∈ L) = true from by simp; exact mem_of_at hlt (by rw [← HX.out, hxk]))
        clear hxk
        go_wp2
        go_ret
        exact ⟨by rw [HM.out]; rfl, rfl⟩
      · have hb : (x == k) = false := by simp [hxk]
        have HN := Lib.hid hxk
        clear hxk
        go_wp2
        refine ⟨⟨j + 1, by omega, by go_num, fun q hq => ?_⟩, by simp [intOf]; omega⟩
        by_cases hqj : q < j
        · exact HNO.out q hqj
        · obtain rfl : q = j := by omega
          rw [← HX.out]; exact HN.out
    · obtain rfl : j = L.length := by omega
      have HM := Lib.hid (show decide (k ∈ L) = false from by simp; exact not_mem_of HNO.out)
      go_wp2
      go_ret
      exact ⟨by rw [HM.out]; rfl, rfl⟩


theorem filtL_mem (p : Nat → Bool) (k : Nat) (y : Int) : y ∈ filtL p k ↔ ∃ j : Nat, j < k ∧ p j = true ∧ y = (j : Int) := by
  unfold filtL
  rw [List.mem_map]
  constructor
  · rintro ⟨j, hj, rfl⟩
    obtain ⟨a, b⟩ := List.mem_filter.1 hj
    exact ⟨j, List.mem_range.1 a, b, rfl⟩
  · rintro ⟨j, a, b, rfl⟩
    exact ⟨j, List.mem_filter.2 ⟨List.mem_range.2 a, b⟩, rfl⟩
theorem Chain.closed {n : Nat} (hn : n ≤ 16) {E : List (Int × Int)} (h : ∀ e ∈ E, In16 n e) {D : List Int} (hD : Chain (adj E) n D) : ∀ x y, RE E x y → x ∈ D → y ∈ D := by
  have step : ∀ x y, (x, y) ∈ E → x ∈ D → y ∈ D := fun x y he hx => by
    have hi := h _ he
    unfold In16 at hi
    simp only at hi
    obtain ⟨o, rfl⟩ := Int.eq_ofNat_of_zero_le hi.1
    obtain ⟨j, rfl⟩ := Int.eq_ofNat_of_zero_le hi.2.2.1
    exact hD.needs o hx j (by omega) ((adj_iff n E h o j (by omega)).2 he)
  intro x y hr
  induction hr with
  | one e => exact step _ _ e
  | more e _ ih => exact fun hx => ih (step _ _ e hx)
theorem Chain.noRing {n : Nat} (hn : n ≤ 16) {E : List (Int × Int)} (h : ∀ e ∈ E, In16 n e) {D : List Int} (hD : Chain (adj E) n D) : ∀ x ∈ D, ¬ RE E x x := by
  induction hD with
  | nil => intro x hx; cases hx
  | @snoc D0 k h0 hf _ ih =>
    intro x hx hr
    rcases List.mem_append.1 hx with hx | hx
    · exact ih x hx hr
    · simp at hx
      subst hx
      have hkf := (free_iff _ _ _ _).1 hf
      have first : ∀ z, ((k : Int), z) ∈ E → z ∈ D0 := fun z he => by
        have hi := h _ he
        unfold In16 at hi
        simp only at hi
        obtain ⟨j, rfl⟩ := Int.eq_ofNat_of_zero_le hi.2.2.1
        exact hkf.2.2 j (by omega) ((adj_iff n E h k j (by omega)).2 he)
      cases hr with
      | one e => exact hkf.2.1 (first _ e)
      | more e r => exact hkf.2.1 (h0.closed hn h _ _ r (first _ e))
end Go.Proofs.YtklkfphpoheanaaDoor
