/- Decimals: what figures they have, and that reading gives the number again. No program is named here. -/
import Derived.Lib.ItoaLen
import Derived.Lib.AtoiAll
namespace Go.Proofs.YtecekbhkombnnaaGreatDoor
open Go.Lib

theorem dec_one (n : Nat) (h : n < 10) : decDigits n = [UInt8.ofNat (48 + n)] := by
  rw [decDigits, dif_pos h]
theorem dec_snoc (n : Nat) (h : ¬ n < 10) : decDigits n = decDigits (n / 10) ++ [UInt8.ofNat (48 + n % 10)] := by
  rw [decDigits, dif_neg h]
theorem fig_nat (k : Nat) (h : k < 10) : (UInt8.ofNat (48 + k)).toNat = 48 + k := by
  rw [UInt8.toNat_ofNat']; omega
theorem dec_figure (n : Nat) : ∀ c ∈ decDigits n, 48 ≤ c.toNat ∧ c.toNat ≤ 57 := by
  induction n using Nat.strongRecOn with
  | _ n ih =>
    intro c hc
    by_cases h : n < 10
    · rw [dec_one n h] at hc
      obtain rfl := List.mem_singleton.1 hc
      rw [fig_nat n h]; omega
    · rw [dec_snoc n h] at hc
      rcases List.mem_append.1 hc with hc | hc
      · exact ih (n / 10) (by omega) c hc
      · obtain rfl := List.mem_singleton.1 hc
        rw [fig_nat _ (by omega)]; omega
theorem dec_ne (n : Nat) : decDigits n ≠ [] := by
  by_cases h : n < 10
  · rw [dec_one n h]; simp
  · rw [dec_snoc n h]; simp
theorem dec_head (n : Nat) (h0 : 0 < n) : ∃ c r, decDigits n = c :: r ∧ 49 ≤ c.toNat := by
  induction n using Nat.strongRecOn with
  | _ n ih =>
    by_cases h : n < 10
    · exact ⟨_, [], dec_one n h, by rw [fig_nat n h]; omega⟩
    · obtain ⟨c, r, e, hc⟩ := ih (n / 10) (by omega) (by omega)
      exact ⟨c, r ++ [UInt8.ofNat (48 + n % 10)], by rw [dec_snoc n h, e]; rfl, hc⟩
theorem dec_len (k : Nat) : ∀ n, n < 10 ^ (k + 1) → (decDigits n).length ≤ k + 1 := by
  induction k with
  | zero => intro n h; rw [dec_one n (by simpa using h)]; simp
  | succ k ih =>
    intro n h
    by_cases h1 : n < 10
    · rw [dec_one n h1]; simp
    · rw [dec_snoc n h1, List.length_append]
      have := ih (n / 10) (by rw [Nat.pow_succ] at h; omega)
      simp; omega
theorem dec_len6 (n : Nat) (h : n ≤ 999999) : (decDigits n).length ≤ 6 := dec_len 5 n (by omega)
theorem parse_snoc (l : List UInt8) (c : UInt8) : ∀ acc u, parseUint10 acc l = .ok u → parseUint10 acc (l ++ [c]) = parseUint10 u [c] := by
  induction l with
  | nil => intro acc u h; simp only [parseUint10] at h; injection h with h; subst h; rfl
  | cons x r ih =>
    intro acc u h
    simp only [parseUint10, List.cons_append] at h ⊢
    split at h
    · rename_i h1
      rw [if_pos h1]
      split at h
      · cases h
      · rename_i h2
        rw [if_neg h2]
        split at h
        · cases h
        · rename_i h3
          rw [if_neg h3]
          exact ih _ u h
    · cases h
theorem parse_dec (n : Nat) (hn : n ≤ 9223372036854775808) : parseUint10 0 (decDigits n) = .ok n := by
  induction n using Nat.strongRecOn with
  | _ n ih =>
    by_cases h : n < 10
    · rw [dec_one n h]
      simp only [parseUint10, fig_nat n h]
      rw [if_pos (by omega), if_neg (by omega), if_neg (by omega)]
      congr 1; omega
    · rw [dec_snoc n h, parse_snoc _ _ _ _ (ih (n / 10) (by omega) (by omega))]
      simp only [parseUint10, fig_nat (n % 10) (by omega)]
      rw [if_pos (by omega), if_neg (by omega), if_neg (by omega)]
      congr 1; omega
theorem mag_dec (n : Nat) (hn : n ≤ 9223372036854775808) : parseMag (decDigits n) = .ok n := by
  unfold parseMag
  rw [if_neg (dec_ne n)]
  exact parse_dec n hn
/-- reading what was written gives the number again -/
theorem atoi_itoa (n : Int) (h0 : -9223372036854775808 ≤ n) (h1 : n ≤ 9223372036854775807) : atoiAll (itoa n) = .ok n := by
  by_cases hn : n < 0
  · have e : itoa n = 45 :: decDigits n.natAbs := by unfold itoa; rw [if_pos hn]
    rw [e]
    show (match parseMag (if (45 : UInt8).toNat = 43 ∨ (45 : UInt8).toNat = 45 then decDigits n.natAbs else 45 :: decDigits n.natAbs) with
      | .syntax => NumEnd.syntax
      | .range => .range
      | .ok u => if ¬ (45 : UInt8).toNat = 45 ∧ 9223372036854775808 ≤ u then .range else if (45 : UInt8).toNat = 45 ∧ 9223372036854775808 < u then .range else .ok (if (45 : UInt8).toNat = 45 then -(u : Int) else u)) = _
    rw [if_pos (by decide), mag_dec _ (by omega)]
    simp only []
    rw [if_neg (by simp), if_neg (by omega), if_pos (by decide)]
    congr 1; omega
  · have e : itoa n = decDigits n.natAbs := by unfold itoa; rw [if_neg hn, show n.toNat = n.natAbs by omega]
    rw [e]
    obtain ⟨c, r, hc⟩ : ∃ c r, decDigits n.natAbs = c :: r := by
      cases hd : decDigits n.natAbs with
      | nil => exact absurd hd (dec_ne _)
      | cons c r => exact ⟨c, r, rfl⟩
    have hf := dec_figure n.natAbs c (by rw [hc]; simp)
    have hm := mag_dec n.natAbs (by omega)
    rw [hc] at hm ⊢
    show (match parseMag (if c.toNat = 43 ∨ c.toNat = 45 then r else c :: r) with
      | .syntax => NumEnd.syntax
      | .range => .range
      | .ok u => if ¬ c.toNat = 45 ∧ 9223372036854775808 ≤ u then .range else if c.toNat = 45 ∧ 9223372036854775808 < u then .range else .ok (if c.toNat = 45 then -(u : Int) else u)) = _
    rw [if_neg (by omega), hm]
    simp only []
    rw [if_neg (by omega), if_neg (by omega), if_neg (by omega)]
    congr 1; omega
theorem itoa_inj {a b : Int} (ha0 : -9223372036854775808 ≤ a) (ha1 : a ≤ 9223372036854775807) (hb0 : -9223372036854775808 ≤ b) (hb1 : b ≤ 9223372036854775807) (h : itoa a = itoa b) : a = b := by
  have h1 := atoi_itoa a ha0 ha1
  rw [h, atoi_itoa b hb0 hb1] at h1
  injection h1 with h1
  exact h1.symm
end Go.Proofs.YtecekbhkombnnaaGreatDoor
