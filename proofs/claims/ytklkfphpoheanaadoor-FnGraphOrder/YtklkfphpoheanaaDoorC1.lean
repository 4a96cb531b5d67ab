/- The least of a set: math/bits.TrailingZeros16 and its table. -/
import Derived.Test.YtklkfphpoheanaaDoorP4
namespace Go.Proofs.YtklkfphpoheanaaDoor
open Go.RowKit

def B0 : List Int := [0, 1, 28, 2, 29, 14, 24, 3, 30, 22, 20, 15, 25, 17, 4, 8, 31, 27, 13, 23, 21, 19, 16, 7, 26, 12, 18, 6, 11, 5, 10, 9]
structure Tabs (w : World) : Prop where
  bs : ∀ j, j < 32 → w.cell? ⟨0, j, none⟩ = some (.int .u8 (B0.getD j 0))
theorem Tabs.grown {w w' : World} (h : Tabs w) (hg : w.grownBy w' none) : Tabs w' :=
  ⟨fun j hj => hg.cell (h.bs j hj) (by simp)⟩

/-- the least of a set -/
def Least (s t : Nat) : Prop := s.testBit t = true ∧ ∀ j, j < t → s.testBit j = false
theorem least_ex (s : Nat) (h0 : s ≠ 0) : ∃ t, Least s t := by
  have h : ∃ t, s.testBit t = true := by
    apply Classical.byContradiction
    intro hn
    exact h0 ((zero_iff s).2 fun j => by
      cases hb : s.testBit j
      · rfl
      · exact absurd ⟨j, hb⟩ hn)
  obtain ⟨t, ht⟩ := h
  induction t using Nat.strongRecOn with
  | ind t ih =>
    by_cases hx : ∃ j, j < t ∧ s.testBit j = true
    · obtain ⟨j, hj, hb⟩ := hx
      exact ih j hj hb
    · exact ⟨t, ht, fun j hj => by
        cases hb : s.testBit j
        · rfl
        · exact absurd ⟨j, hj, hb⟩ hx⟩
theorem Least.lt {s t : Nat} (h : Least s t) (hs : s < 65536) : t < 16 := by
  apply Classical.byContradiction
  intro hn
  have := bit_hi s t hs (by omega)
  rw [h.1] at this
  exact absurd this (by decide)
theorem Least.one {s t t' : Nat} (h : Least s t) (h' : Least s t') : t = t' := by
  rcases Nat.lt_trichotomy t t' with hl | hl | hl
  · have := h'.2 t hl; rw [h.1] at this; exact absurd this (by decide)
  · exact hl
  · have := h.2 t' hl; rw [h'.1] at this; exact absurd this (by decide)
theorem Least.low {s t : Nat} (h : Least s t) : s % 2 ^ t = 0 := by
  apply Nat.eq_of_testBit_eq
  intro i
  rw [Nat.testBit_mod_two_pow, Nat.zero_testBit]
  by_cases hi : i < t
  · simp [h.2 i hi]
  · simp [hi]

theorem pred_div (s i : Nat) (h : s % 2 ^ i ≠ 0) : (s - 1) / 2 ^ i = s / 2 ^ i := by
  have hp : 0 < 2 ^ i := Nat.two_pow_pos i
  have h1 := Nat.div_add_mod s (2 ^ i)
  have h2 := Nat.mod_lt s hp
  rw [Nat.div_eq_iff hp]
  have h3 : s / 2 ^ i * 2 ^ i = 2 ^ i * (s / 2 ^ i) := Nat.mul_comm _ _
  omega
theorem neg_and (s t : Nat) (hs : s < 65536) (h : Least s t) : s &&& (65536 - s) = 2 ^ t := by
  have h0 : s ≠ 0 := fun e => by
    have := h.1; rw [e, Nat.zero_testBit] at this; exact absurd this (by decide)
  have ht := h.lt hs
  apply Nat.eq_of_testBit_eq
  intro i
  rw [Nat.testBit_and, show 65536 - s = 2 ^ 16 - ((s - 1) + 1) from by omega, Nat.testBit_two_pow_sub_succ (by omega), Nat.testBit_two_pow]
  rcases Nat.lt_trichotomy i t with hl | rfl | hl
  · simp [h.2 i hl]; omega
  · have e1 : (s - 1).testBit i = false := by
      have hp : 0 < 2 ^ i := Nat.two_pow_pos i
      have hm := h.low
      have hd := Nat.div_add_mod s (2 ^ i)
      have hb := h.1
      rw [Nat.testBit_eq_decide_div_mod_eq] at hb ⊢
      have hb := of_decide_eq_true hb
      have : (s - 1) / 2 ^ i = s / 2 ^ i - 1 := by
        have hq : 1 ≤ s / 2 ^ i := Nat.pos_of_ne_zero (fun e => by rw [e] at hb; exact absurd hb (by decide))
        obtain ⟨q, hq'⟩ : ∃ q, s / 2 ^ i = q + 1 := ⟨s / 2 ^ i - 1, by omega⟩
        rw [hq'] at hd ⊢
        rw [Nat.div_eq_iff hp]
        rw [Nat.mul_add, Nat.mul_one, Nat.mul_comm] at hd
        simp only [Nat.add_sub_cancel]
        omega
      have hne : s / 2 ^ i ≠ 0 := fun e => by rw [e] at hb; exact absurd hb (by decide)
      rw [this]
      generalize s / 2 ^ i = q at hb hne ⊢
      simp
      omega
    simp [h.1, e1, ht]
  · by_cases hb : s.testBit i = true
    · have e1 : (s - 1).testBit i = true := by
        rw [Nat.testBit_eq_decide_div_mod_eq] at hb ⊢
        rw [pred_div s i]
        · exact hb
        · intro hz
          have : (s % 2 ^ i).testBit t = true := by rw [Nat.testBit_mod_two_pow]; simp [hl, h.1]
          rw [hz, Nat.zero_testBit] at this
          exact absurd this (by decide)
      simp [e1]; omega
    · simp [hb]; omega

theorem tz_tab : ∀ t : Nat, t < 16 → B0.getD (2 ^ t % 4294967296 * 125613361 % 4294967296 / 134217728) 0 = (t : Int) ∧ 2 ^ t % 4294967296 * 125613361 % 4294967296 / 134217728 < 32 := by decide

theorem tz_any (w : World) (s : Nat) (hs : s < 65536) (t : Nat) (ht : Least s t) (hw : Tabs w) : Calls Tryd.prog 49 #[.int .u16 (s : Int)] w fun e w' => e = .returned (.int .i64 (t : Int)) ∧ w' = w := by
  have h0 : s ≠ 0 := fun e => by
    have := ht.1; rw [e, Nat.zero_testBit] at this; exact absurd this (by decide)
  have hb : ((s : Int) == 0) = false := by simp; omega
  obtain ⟨h1, h2⟩ := tz_tab t (ht.lt hs)
  have e1 : IntKind.u16.wrap (-(s : Int)) = ((65536 - s : Nat) : Int) := by
    rw [IntKind.wrap_u16]; omega
  have e2 : bits .and .u16 (s : Int) (IntKind.u16.wrap (-(s : Int))) = ((2 ^ t : Nat) : Int) := by
    rw [e1, u16_and_nat _ _ hs (by omega), neg_and s t hs ht]
  obtain ⟨q, hq⟩ : ∃ q : Nat, q = 2 ^ t % 4294967296 * 125613361 % 4294967296 / 134217728 := ⟨_, rfl⟩
  rw [← hq] at h1 h2
  obtain ⟨p, hp⟩ : ∃ p : Int, p = ((2 ^ t : Nat) : Int) := ⟨_, rfl⟩
  have e3 : p % 4294967296 * 125613361 % 4294967296 / 134217728 = (q : Int) := by rw [hp, hq]; generalize 2 ^ t = x; omega
  obtain ⟨a, ha⟩ : ∃ a : Int, a = bits .and .u16 (s : Int) (IntKind.u16.wrap (-(s : Int))) := ⟨_, rfl⟩
  have d0 := hw.bs q h2
  rw [h1] at d0
  have e4 : bits .and .u16 (s : Int) (IntKind.u16.wrap (-(s : Int))) = p := by rw [e2, hp]
  have ht16 := ht.lt hs
  have h2I : (q : Int) < 32 := by omega
  clear e1 e2 hp hq h1 ha
  go_enter Tryd.func49, Tryd.ntmps49
  go_wp2
  go_ret
  refine ⟨?_, rfl⟩
  first | rfl | go_num
theorem least_any (w : World) (s : Nat) (hs : s < 65536) (t : Nat) (ht : Least s t) (hw : Tabs w) : Calls Tryd.prog 45 #[.int .u16 (s : Int)] w fun e w' => e = .returned (.int .i64 (t : Int)) ∧ w' = w := by
  go_enter Tryd.func45, Tryd.ntmps45
  go_wp2_with (first | (go_at_call 49; refine (tz_any _ s hs t ht hw).mono ?_; rintro e w' ⟨rfl, rfl⟩))
  go_ret
  exact ⟨rfl, rfl⟩
end Go.Proofs.YtklkfphpoheanaaDoor
