/- Heaps of numbers in lists: plain. No program is named here. -/
namespace Go.Proofs.YtklkfphpoheanaaDoor

def swapL (L : List Int) (i j : Nat) : List Int := (L.set i (L.getD j 0)).set j (L.getD i 0)
theorem swapL_len (L : List Int) (i j : Nat) : (swapL L i j).length = L.length := by simp [swapL]
theorem swapL_perm (L : List Int) (i j : Nat) (hi : i < L.length) (hj : j < L.length) : (swapL L i j).Perm L := by
  unfold swapL
  rw [show L.getD j 0 = L[j] from by simp [hj], show L.getD i 0 = L[i] from by simp [hi]]
  exact List.set_set_perm hi hj
theorem swapL_get (L : List Int) (i j k : Nat) (hi : i < L.length) (hj : j < L.length) : (swapL L i j).getD k 0 = if k = j then L.getD i 0 else if k = i then L.getD j 0 else L.getD k 0 := by
  unfold swapL
  rw [List.getD_eq_getElem?_getD]
  by_cases h1 : k = j
  · subst h1
    rw [if_pos rfl, List.getElem?_set_self (by simpa using hj)]; rfl
  · rw [if_neg h1, List.getElem?_set_ne (Ne.symm h1)]
    by_cases h2 : k = i
    · subst h2
      rw [if_pos rfl, List.getElem?_set_self hi]; rfl
    · rw [if_neg h2, List.getElem?_set_ne (Ne.symm h2), ← List.getD_eq_getElem?_getD]
/-- the first n are a heap -/
def HeapL (L : List Int) (n : Nat) : Prop := ∀ k, 0 < k → k < n → L.getD ((k - 1) / 2) 0 ≤ L.getD k 0
structure UpInv (L : List Int) (n j : Nat) : Prop where
  rest : ∀ k, 0 < k → k < n → k ≠ j → L.getD ((k - 1) / 2) 0 ≤ L.getD k 0
  kids : ∀ c, 0 < c → c < n → (c - 1) / 2 = j → 0 < j → L.getD ((j - 1) / 2) 0 ≤ L.getD c 0
theorem UpInv.stop {L : List Int} {n j : Nat} (h : UpInv L n j) (hs : j = 0 ∨ L.getD ((j - 1) / 2) 0 ≤ L.getD j 0) : HeapL L n := fun k h0 hn => by
  by_cases hk : k = j
  · subst hk
    rcases hs with hs | hs
    · omega
    · exact hs
  · exact h.rest k h0 hn hk
theorem UpInv.step {L : List Int} {n j : Nat} (h : UpInv L n j) (hn : n ≤ L.length) (h0 : 0 < j) (hj : j < n) (hlt : L.getD j 0 < L.getD ((j - 1) / 2) 0) : UpInv (swapL L ((j - 1) / 2) j) n ((j - 1) / 2) := by
  have hi : (j - 1) / 2 < L.length := by omega
  have hjl : j < L.length := by omega
  have hij : (j - 1) / 2 ≠ j := by omega
  refine ⟨fun k k0 kn ki => ?_, fun c c0 cn cp i0 => ?_⟩
  · rw [swapL_get L _ _ _ hi hjl, swapL_get L _ _ _ hi hjl, if_neg ki]
    by_cases hkj : k = j
    · subst hkj
      rw [if_neg hij, if_pos rfl, if_pos rfl]
      omega
    · rw [if_neg hkj]
      by_cases hp : (k - 1) / 2 = j
      · rw [if_pos hp]
        exact h.kids k k0 kn hp h0
      · rw [if_neg hp]
        by_cases hp2 : (k - 1) / 2 = (j - 1) / 2
        · rw [if_pos hp2]
          have := h.rest k k0 kn hkj
          rw [hp2] at this
          omega
        · rw [if_neg hp2]
          exact h.rest k k0 kn hkj
  · have hpp : ((j - 1) / 2 - 1) / 2 ≠ j := by omega
    have hpp2 : ((j - 1) / 2 - 1) / 2 ≠ (j - 1) / 2 := by omega
    rw [swapL_get L _ _ _ hi hjl, swapL_get L _ _ _ hi hjl, if_neg hpp, if_neg hpp2]
    have h1 := h.rest ((j - 1) / 2) i0 (by omega) hij
    by_cases hcj : c = j
    · rw [if_pos hcj]
      exact h1
    · rw [if_neg hcj]
      have hci : c ≠ (j - 1) / 2 := by omega
      rw [if_neg hci]
      have h2 := h.rest c c0 cn hcj
      rw [cp] at h2
      omega
structure DownInv (L : List Int) (n i : Nat) : Prop where
  rest : ∀ k, 0 < k → k < n → (k - 1) / 2 ≠ i → L.getD ((k - 1) / 2) 0 ≤ L.getD k 0
  kids : ∀ c, 0 < c → c < n → (c - 1) / 2 = i → 0 < i → L.getD ((i - 1) / 2) 0 ≤ L.getD c 0
theorem DownInv.stop {L : List Int} {n i : Nat} (h : DownInv L n i) (hs : ∀ c, 0 < c → c < n → (c - 1) / 2 = i → L.getD i 0 ≤ L.getD c 0) : HeapL L n := fun k h0 hn => by
  by_cases hk : (k - 1) / 2 = i
  · rw [hk]; exact hs k h0 hn hk
  · exact h.rest k h0 hn hk
theorem DownInv.step {L : List Int} {n i j : Nat} (h : DownInv L n i) (hn : n ≤ L.length) (j0 : 0 < j) (hj : j < n) (hji : (j - 1) / 2 = i) (hmin : ∀ c, 0 < c → c < n → (c - 1) / 2 = i → L.getD j 0 ≤ L.getD c 0) (hlt : L.getD j 0 < L.getD i 0) : DownInv (swapL L i j) n j := by
  have hil : i < L.length := by omega
  have hjl : j < L.length := by omega
  have hij : i ≠ j := by omega
  refine ⟨fun k k0 kn kp => ?_, fun c c0 cn cp _ => ?_⟩
  · rw [swapL_get L _ _ _ hil hjl, swapL_get L _ _ _ hil hjl, if_neg kp]
    by_cases hp : (k - 1) / 2 = i
    · rw [if_pos hp]
      by_cases hkj : k = j
      · rw [if_pos hkj]; omega
      · rw [if_neg hkj]
        have hki : k ≠ i := by omega
        rw [if_neg hki]
        exact hmin k k0 kn hp
    · rw [if_neg hp]
      by_cases hkj : k = j
      · subst hkj; exact absurd hji hp
      · rw [if_neg hkj]
        by_cases hki : k = i
        · subst hki
          rw [if_pos rfl]
          exact h.kids j j0 hj hji k0
        · rw [if_neg hki]
          exact h.rest k k0 kn hp
  · have hcj : c ≠ j := by omega
    have hci : c ≠ i := by omega
    rw [swapL_get L _ _ _ hil hjl, swapL_get L _ _ _ hil hjl, hji, if_neg hij, if_pos rfl, if_neg hcj, if_neg hci]
    have := h.rest c c0 cn (by omega)
    rw [cp] at this
    exact this
theorem HeapL.least {L : List Int} {n : Nat} (h : HeapL L n) : ∀ k, k < n → L.getD 0 0 ≤ L.getD k 0 := fun k => by
  induction k using Nat.strongRecOn with
  | _ k ih =>
    intro hk
    by_cases h0 : k = 0
    · subst h0; exact Int.le_refl _
    · have h1 := ih ((k - 1) / 2) (by omega) (by omega)
      have h2 := h k (by omega) hk
      omega
theorem HeapL.up {L : List Int} {x : Int} (h : HeapL L L.length) : UpInv (L ++ [x]) (L ++ [x]).length L.length := by
  refine ⟨fun k k0 kn kl => ?_, fun c _ cn cp _ => ?_⟩
  · have hk : k < L.length := by simp at kn; omega
    rw [List.getD_eq_getElem?_getD, List.getD_eq_getElem?_getD, List.getElem?_append_left (by omega), List.getElem?_append_left hk, ← List.getD_eq_getElem?_getD, ← List.getD_eq_getElem?_getD]
    exact h k k0 hk
  · simp at cn; omega
theorem HeapL.down {L : List Int} {n : Nat} (h : HeapL L L.length) (hn : n + 1 = L.length) : DownInv (swapL L 0 n) n 0 := by
  refine ⟨fun k k0 kn kp => ?_, fun c _ _ _ h0 => absurd h0 (by omega)⟩
  rw [swapL_get L _ _ _ (by omega) (by omega), swapL_get L _ _ _ (by omega) (by omega), if_neg (by omega), if_neg kp, if_neg (by omega), if_neg (by omega)]
  exact h k k0 (by omega)
theorem heap_nil : HeapL [] 0 := fun _ _ h => absurd h (Nat.not_lt_zero _)

end Go.Proofs.YtklkfphpoheanaaDoor
