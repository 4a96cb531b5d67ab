/- The two sums are one: plain mathematics. -/
import Derived.Test.YtdelijobaebfnaaDoorMv6
namespace Go.Proofs.YtdelijobaebfnaaDoor
open Go.RowKit

theorem or_join (i : Nat) (a b : Int) (h0 : 0 ≤ a) (ha : a < 4294967296) (hb0 : 0 ≤ b) (hb : b < 2 ^ i) (hi : i ≤ 32) (hm : a.toNat % 2 ^ i = 0) : bits .or .u32 a b = a + b := by
  have hb2 : b.toNat < 2 ^ i := by
    have : ((2 ^ i : Nat) : Int) = (2 : Int) ^ i := by simp
    omega
  have hp : 2 ^ i ≤ 2 ^ 32 := Nat.pow_le_pow_right (by omega) hi
  rw [u32_or a b h0 ha hb0 (by omega), nat_join i _ _ hm hb2]
  omega

theorem wStep_eq (x c : Int) (h0 : 0 ≤ x) (hx : x < 16777216) (c0 : 0 ≤ c) (hc : c < 256) : wStep x c = x * 256 + c := by
  unfold wStep
  rw [Int.emod_eq_of_lt (by omega) (by omega), Int.emod_eq_of_lt (by omega) (by omega)]
  exact or_join 8 _ _ (by omega) (by omega) c0 (by omega) (by decide) (by omega)
theorem wordR_eq (a b c d : Int) (a0 : 0 ≤ a) (ha : a < 256) (b0 : 0 ≤ b) (hb : b < 256) (c0 : 0 ≤ c) (hc : c < 256) (d0 : 0 ≤ d) (hd : d < 256) : wordR a b c d = a * 16777216 + b * 65536 + c * 256 + d := by
  unfold wordR
  simp only [IntKind.wrap_u32']
  rw [Int.emod_eq_of_lt a0 (show a < 4294967296 by omega), Int.emod_eq_of_lt b0 (show b < 4294967296 by omega), Int.emod_eq_of_lt c0 (show c < 4294967296 by omega), Int.emod_eq_of_lt d0 (show d < 4294967296 by omega),
    Int.emod_eq_of_lt (show 0 ≤ a * 16777216 by omega) (by omega), Int.emod_eq_of_lt (show 0 ≤ b * 65536 by omega) (by omega), Int.emod_eq_of_lt (show 0 ≤ c * 256 by omega) (by omega)]
  rw [or_join 24 (a * 16777216) (b * 65536) (by omega) (by omega) (by omega) (by omega) (by decide) (by omega),
    or_join 16 _ (c * 256) (by omega) (by omega) (by omega) (by omega) (by decide) (by omega),
    or_join 8 _ d (by omega) (by omega) d0 (by omega) (by decide) (by omega)]

theorem getD_b {B : List Int} (h : B8 B) (j : Nat) : 0 ≤ B.getD j 0 ∧ B.getD j 0 < 256 := by
  by_cases hj : j < B.length
  · have := h B[j] (List.getElem_mem hj); simpa [hj] using this
  · simp [List.getElem?_eq_none (show B.length ≤ j by omega)]

/-- four bytes make a word; what is ahead of it and behind it stays -/
theorem wordsTo_four (B : List Int) (h : B8 B) (k : Nat) (hk : k < 16) (h0 : (wordsTo B (4 * k)).getD k 0 = 0) : wordsTo B (4 * (k + 1)) = (wordsTo B (4 * k)).set k (wordS B k) := by
  have hl := wordsTo_len B (4 * k)
  have e0 := getD_b h (4 * k)
  have e1 := getD_b h (4 * k + 1)
  have e2 := getD_b h (4 * k + 2)
  have e3 := getD_b h (4 * k + 3)
  have gs : ∀ v : Int, ((wordsTo B (4 * k)).set k v).getD k 0 = v := fun v => by simp [hl, hk]
  have hsz : ∀ v : Int, ((wordsTo B (4 * k)).set k v).length = 16 := fun v => by simp [hl]
  have w1 : wordsTo B (4 * k + 1) = (wordsTo B (4 * k)).set k (B.getD (4 * k) 0) := by
    rw [wordsTo, show 4 * k / 4 = k by omega, h0, wStep_eq 0 _ (by decide) (by decide) e0.1 e0.2]
    simp
  have w2 : wordsTo B (4 * k + 2) = (wordsTo B (4 * k)).set k (B.getD (4 * k) 0 * 256 + B.getD (4 * k + 1) 0) := by
    rw [wordsTo, show (4 * k + 1) / 4 = k by omega, w1, gs, wStep_eq _ _ e0.1 (by omega) e1.1 e1.2, List.set_set]
  have w3 : wordsTo B (4 * k + 3) = (wordsTo B (4 * k)).set k ((B.getD (4 * k) 0 * 256 + B.getD (4 * k + 1) 0) * 256 + B.getD (4 * k + 2) 0) := by
    rw [wordsTo, show (4 * k + 2) / 4 = k by omega, w2, gs, wStep_eq _ _ (by omega) (by omega) e2.1 e2.2, List.set_set]
  rw [show 4 * (k + 1) = 4 * k + 3 + 1 by omega, wordsTo, show (4 * k + 3) / 4 = k by omega, w3, gs, wStep_eq _ _ (by omega) (by omega) e3.1 e3.2, List.set_set, wordS, wordR_eq _ _ _ _ e0.1 e0.2 e1.1 e1.2 e2.1 e2.2 e3.1 e3.2]
  congr 1
  omega

theorem words_same (B : List Int) (h : B8 B) : ∀ k, k ≤ 16 → wordsTo B (4 * k) = words16 B k ++ List.replicate (16 - k) 0
  | 0, _ => rfl
  | k + 1, hk => by
    have ih := words_same B h k (by omega)
    have hwl := words16_len B k
    have er : List.replicate (16 - k) (0 : Int) = 0 :: List.replicate (16 - (k + 1)) 0 := by
      rw [show 16 - k = (16 - (k + 1)) + 1 from by omega, List.replicate_succ]
    rw [wordsTo_four B h k (by omega) (by rw [ih, er]; simp [hwl]), ih, er, words16, List.set_append_right _ _ (by omega), hwl]
    simp

theorem schedTo_more (L : List Int) (j : Nat) : ∀ t d, j < L.length + t → (schedTo L (t + d)).getD j 0 = (schedTo L t).getD j 0
  | _, 0, _ => rfl
  | t, d + 1, h => by
    have ih := schedTo_more L j t d h
    rw [← ih, ← Nat.add_assoc, schedTo]
    simp only [List.getD_eq_getElem?_getD]
    rw [List.getElem?_append_left (by rw [schedTo_len]; omega)]
theorem sched_low (L : List Int) (j : Nat) (h : j < L.length) : (schedTo L 48).getD j 0 = L.getD j 0 := by
  have := schedTo_more L j 0 48 (by omega)
  rw [Nat.zero_add] at this
  exact this
theorem sched_high (L : List Int) (hL : L.length = 16) (t : Nat) (ht : t < 48) : (schedTo L 48).getD (16 + t) 0 =
    ((schedTo L 48).getD t 0 + sg0 ((schedTo L 48).getD (t + 1) 0) + (schedTo L 48).getD (t + 9) 0 + sg1 ((schedTo L 48).getD (t + 14) 0)) % 4294967296 := by
  have g : ∀ j, j < 16 + t → (schedTo L 48).getD j 0 = (schedTo L t).getD j 0 := fun j hj => by
    have := schedTo_more L j t (48 - t) (by omega)
    rw [show t + (48 - t) = 48 by omega] at this
    exact this
  have g1 : (schedTo L 48).getD (16 + t) 0 = (schedTo L (t + 1)).getD (16 + t) 0 := by
    have := schedTo_more L (16 + t) (t + 1) (48 - (t + 1)) (by omega)
    rw [show t + 1 + (48 - (t + 1)) = 48 by omega] at this
    exact this
  rw [g1, g t (by omega), g (t + 1) (by omega), g (t + 9) (by omega), g (t + 14) (by omega), schedTo]
  have hl := schedTo_len L t
  simp only [List.getD_eq_getElem?_getD]
  rw [List.getElem?_append_right (by omega), show 16 + t - (schedTo L t).length = 0 by omega]
  simp only [List.getElem?_cons_zero, Option.getD_some, extS, IntKind.wrap_u32']
  omega

theorem take_sched (K L S : List Int) (hL : L.length = 16) : ∀ k, k ≤ 64 →
    (takeTo K L S k).1.length = 16 ∧ (k ≤ 16 → (takeTo K L S k).1 = L) ∧ (16 ≤ k → ∀ i, k - 16 ≤ i → i < k → (takeTo K L S k).1.getD (i % 16) 0 = (schedTo L 48).getD i 0)
  | 0, _ => ⟨hL, fun _ => rfl, fun h => by omega⟩
  | k + 1, hk => by
    obtain ⟨h1, h2, h3⟩ := take_sched K L S hL k (by omega)
    have e : (takeTo K L S (k + 1)).1 = schX (takeTo K L S k).1 k := rfl
    by_cases h16 : k < 16
    · have e2 : (takeTo K L S (k + 1)).1 = L := by rw [e, schX, if_pos h16, h2 (by omega)]
      refine ⟨by rw [e2]; exact hL, fun _ => e2, fun h i hi1 hi2 => ?_⟩
      rw [e2, sched_low L i (by omega), Nat.mod_eq_of_lt (by omega)]
    · have h3' := h3 (by omega)
      have lat_eq : latAt (takeTo K L S k).1 (k % 16) = (schedTo L 48).getD k 0 := by
        have q0 := h3' (k - 16) (by omega) (by omega)
        have q1 := h3' (k - 15) (by omega) (by omega)
        have q9 := h3' (k - 7) (by omega) (by omega)
        have q14 := h3' (k - 2) (by omega) (by omega)
        have hh := sched_high L hL (k - 16) (by omega)
        rw [show 16 + (k - 16) = k by omega, show k - 16 + 1 = k - 15 by omega, show k - 16 + 9 = k - 7 by omega, show k - 16 + 14 = k - 2 by omega] at hh
        rw [hh, latAt, lat, show (k % 16 + 1) % 16 = (k - 15) % 16 by omega, show (k % 16 + 9) % 16 = (k - 7) % 16 by omega, show (k % 16 + 14) % 16 = (k - 2) % 16 by omega, show k % 16 = (k - 16) % 16 by omega, q0, q1, q9, q14]
        omega
      have e2 : (takeTo K L S (k + 1)).1 = (takeTo K L S k).1.set (k % 16) ((schedTo L 48).getD k 0) := by rw [e, schX, if_neg h16, lat_eq]
      refine ⟨by rw [e2, List.length_set]; exact h1, fun h => by omega, fun h i hi1 hi2 => ?_⟩
      rw [e2]
      by_cases hik : i = k
      · subst hik
        simp [h1, Nat.mod_lt]
      · have hne : k % 16 ≠ i % 16 := by omega
        simp only [List.getD_eq_getElem?_getD, List.getElem?_set_ne hne]
        have := h3' i (by omega) (by omega)
        simpa using this

theorem schV_eq (K L S : List Int) (hL : L.length = 16) (k : Nat) (hk : k < 64) : schV (takeTo K L S k).1 k = (schedTo L 48).getD k 0 := by
  obtain ⟨h1, h2, h3⟩ := take_sched K L S hL k (by omega)
  unfold schV
  by_cases h16 : k < 16
  · rw [if_pos h16, h2 (by omega), sched_low L k (by omega)]
  · rw [if_neg h16]
    obtain ⟨g1, g2, g3⟩ := take_sched K L S hL (k + 1) (by omega)
    have e : (takeTo K L S (k + 1)).1 = schX (takeTo K L S k).1 k := rfl
    have := g3 (by omega) k (by omega) (by omega)
    rw [e, schX, if_neg h16] at this
    rw [← this]
    simp [h1, Nat.mod_lt]

theorem rnd_same (S : List Int) (v k : Int) : rndL S ((v + k) % 4294967296) = rndS S k v := by
  unfold rndL rndS rnd0 rnd4 t1S
  generalize chh (S.getD 4 0) (S.getD 5 0) (S.getD 6 0) = c
  generalize bs1 (S.getD 4 0) = b1
  generalize bs0 (S.getD 0 0) = b0
  generalize mjj (S.getD 0 0) (S.getD 1 0) (S.getD 2 0) = m
  congr 1
  · omega
  · congr 4
    omega

theorem rounds_same (K L S : List Int) (hL : L.length = 16) : ∀ k, k ≤ 64 → (takeTo K L S k).2 = roundsS K (schedTo L 48) S k
  | 0, _ => rfl
  | k + 1, hk => by
    have ih := rounds_same K L S hL k (by omega)
    rw [takeTo, roundsS, ← ih]
    show rndL _ _ = _
    rw [schV_eq K L S hL k (by omega), rnd_same]

theorem addS_eq (S S' : List Int) : addS S S' 8 = addL S S' := by
  simp only [addS, addL, IntKind.wrap_u32']
  rfl

theorem comp_same (S B : List Int) (hB : B8 B) : compI K0 S (wordsTo B 64) = compS S B := by
  have hw : wordsTo B 64 = words16 B 16 := by
    have := words_same B hB 16 (Nat.le_refl _)
    simpa using this
  unfold compI compS
  rw [hw, addS_eq, rounds_same K0 (words16 B 16) S (words16_len B 16) 64 (Nat.le_refl _)]

theorem blocks_same (P : List Int) (hP : B8 P) : ∀ t, blocksTo K0 H0 P t = blocksS P t
  | 0 => rfl
  | t + 1 => by rw [blocksTo, blocksS, blocks_same P hP t, comp_same _ _ (hP.cut _ _)]

/-- THE TWO SUMS ARE ONE. -/
theorem sha_same (m : List Int) (h : B8 m) : shaS m = sha m := by
  unfold shaS sha sumI
  rw [blocks_same _ (padI_b m h)]

end Go.Proofs.YtdelijobaebfnaaDoor
