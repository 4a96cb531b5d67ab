/- slices.Index and slices.Min over a row of ints. -/
import Derived.Test.YtklkfphpoheanaaDoorS1
namespace Go.Proofs.YtklkfphpoheanaaDoor
open Go.RowKit

/-- where one stands first -/
def AtI (L : List Int) (k : Int) (r : Int) : Prop := (∃ j : Nat, r = j ∧ j < L.length ∧ L.getD j 0 = k ∧ ∀ q, q < j → L.getD q 0 ≠ k) ∨ (r = -1 ∧ ¬ k ∈ L)

set_option maxHeartbeats 1000000 in
theorem index_any (w : World) (L : List Int) (ta : Option Addr) (g o cp : Nat) (hta : 0 < L.length → ta = some ⟨g, o, none⟩) (hc : ∀ j, j < L.length → w.cell? ⟨g, o + j, none⟩ = some (.int .i64 (L.getD j 0))) (hl : L.length ≤ 1048576) (k : Int) :
    Calls Tryd.prog 44 #[.slice ta L.length cp, .int .i64 k] w fun e w' => ∃ r : Int, e = .returned (.int .i64 r) ∧ AtI L k r ∧ w' = w := by
  have HTA := Lib.hid hta
  have HC := Lib.hid hc
  clear hta hc
  go_enter Tryd.func44, Tryd.ntmps44
  go_wp2
  go_loop [8] (fun i => ∃ j : Nat, j ≤ L.length ∧ i = .int .i64 j ∧ ∀ q, q < j → L.getD q 0 ≠ k) (fun i => L.length - (intOf i).toNat)
  case atStart => exact ⟨0, Nat.zero_le _, rfl, fun q hq => absurd hq (Nat.not_lt_zero _)⟩
  case round =>
    obtain ⟨j, hj, rfl, hno⟩ := hrel
    have HNO := Lib.hid hno
    clear hno
    by_cases hlt : j < L.length
    · have e1 := HTA.out (by omega)
      subst e1
      have d0 := HC.out j hlt
      obtain ⟨x, hx⟩ : ∃ x, x = L.getD j 0 := ⟨_, rfl⟩
      rw [← hx] at d0
      have HX := Lib.hid hx
      have hjI : (j : Int) < L.length := by omega
      clear hx
      by_cases hxk : x = k
      · have hb : (k == x) = true := by simp [hxk]
        have HM := Lib.hid (show AtI L k (j : Int) from .inl ⟨j, rfl, hlt, by rw [← HX.out, hxk], HNO.out⟩)
        clear hxk
        go_wp2
        go_ret
        exact ⟨j, rfl, HM.out, rfl⟩
      · have hb : (k == x) = false := by simp; exact fun h => hxk h.symm
        have HN := Lib.hid hxk
        clear hxk
        go_wp2
        refine ⟨⟨j + 1, by omega, by go_num, fun q hq => ?_⟩, by simp [intOf]; omega⟩
        by_cases hqj : q < j
        · exact HNO.out q hqj
        · obtain rfl : q = j := by omega
          rw [← HX.out]; exact HN.out
    · obtain rfl : j = L.length := by omega
      have HM := Lib.hid (show AtI L k (-1) from .inr ⟨rfl, not_mem_of HNO.out⟩)
      go_wp2
      go_ret
      exact ⟨-1, rfl, HM.out, rfl⟩

set_option maxHeartbeats 1000000 in
theorem min_any (w : World) (L : List Int) (ta : Option Addr) (g o cp : Nat) (hta : 0 < L.length → ta = some ⟨g, o, none⟩) (hc : ∀ j, j < L.length → w.cell? ⟨g, o + j, none⟩ = some (.int .i64 (L.getD j 0))) (hl : L.length ≤ 1048576) (h0 : 0 < L.length) :
    Calls Tryd.prog 50 #[.slice ta L.length cp] w fun e w' => ∃ m : Int, e = .returned (.int .i64 m) ∧ m ∈ L ∧ (∀ x ∈ L, m ≤ x) ∧ w' = w := by
  have e1 := hta h0
  subst e1
  have d0 := hc 0 h0
  rw [Nat.add_zero] at d0
  have HC := Lib.hid hc
  have hlt : ¬ (L.length : Int) < 1 := by omega
  have h0I : (0 : Int) < L.length := by omega
  obtain ⟨x, hx⟩ : ∃ x, x = L.getD 0 0 := ⟨_, rfl⟩
  rw [← hx] at d0
  have HX0 := Lib.hid hx
  clear hta hc hx
  go_enter Tryd.func50, Tryd.ntmps50
  go_wp2
  go_loop [3, 4] (fun m i => ∃ (j : Nat) (y : Int), j ≤ L.length ∧ i = .int .i64 j ∧ m = .int .i64 y ∧ y ∈ L ∧ ∀ q, q < j → y ≤ L.getD q 0) (fun _ i => L.length - (intOf i).toNat)
  case atStart =>
    refine ⟨1, x, by omega, rfl, rfl, mem_of_at h0 HX0.out.symm, fun q hq => ?_⟩
    obtain rfl : q = 0 := by omega
    rw [← HX0.out]; exact Int.le_refl _
  case round =>
    obtain ⟨j, y, hj, rfl, rfl, hy, hno⟩ := hrel
    have HNO := Lib.hid hno
    have HY := Lib.hid hy
    clear hno hy d0
    by_cases hlt : j < L.length
    · have d0 := HC.out j hlt
      obtain ⟨z, hz⟩ : ∃ z, z = L.getD j 0 := ⟨_, rfl⟩
      rw [← hz] at d0
      have HX := Lib.hid hz
      have hjI : (j : Int) < L.length := by omega
      clear hz
      go_wp2
      refine ⟨⟨j + 1, if z < y then z else y, by omega, by go_num, rfl, ?_, fun q hq => ?_⟩, by simp [intOf]; omega⟩
      · split
        · exact mem_of_at hlt HX.out.symm
        · exact HY.out
      · by_cases hqj : q < j
        · have := HNO.out q hqj
          split <;> omega
        · obtain rfl : q = j := by omega
          rw [← HX.out]
          split <;> omega
    · obtain rfl : j = L.length := by omega
      go_wp2
      go_ret
      refine ⟨y, rfl, HY.out, fun q hq => ?_, rfl⟩
      obtain ⟨i, hi, e⟩ := List.mem_iff_getElem.1 hq
      have := HNO.out i hi
      simp [hi, e] at this
      exact this

end Go.Proofs.YtklkfphpoheanaaDoor
