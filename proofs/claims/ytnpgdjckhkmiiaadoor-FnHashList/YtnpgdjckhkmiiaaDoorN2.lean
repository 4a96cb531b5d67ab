/- The sum over natural numbers: words, blocks, the padding, the code of a text by a key. -/
import Derived.Test.YtnpgdjckhkmiiaaDoorN1
namespace Go.Proofs.YtnpgdjckhkmiiaaDoor
open Go.RowKit

/-- numbers that are bytes -/
def N8 (l : List Nat) : Prop := ∀ x ∈ l, x < 256
theorem N8.toI {l : List Nat} (h : N8 l) : B8 (toI l) := fun x hx => by
  obtain ⟨n, hn, rfl⟩ := List.mem_map.1 hx
  have := h n hn
  simp; omega
def wordsN : List Nat → List Nat
  | a :: b :: c :: d :: r => (a * 16777216 + b * 65536 + c * 256 + d) :: wordsN r
  | _ => []
theorem wordsN_get : ∀ (k : Nat) (l : List Nat), 4 * k + 3 < l.length → (wordsN l)[k]? = some (l.getD (4 * k) 0 * 16777216 + l.getD (4 * k + 1) 0 * 65536 + l.getD (4 * k + 2) 0 * 256 + l.getD (4 * k + 3) 0)
  | 0, a :: b :: c :: d :: r, _ => rfl
  | k + 1, a :: b :: c :: d :: r, h => by
    have := wordsN_get k r (by simp at h; omega)
    rw [wordsN, List.getElem?_cons_succ, this]
    simp only [List.getD_eq_getElem?_getD]
    rw [show 4 * (k + 1) = 4 * k + 1 + 1 + 1 + 1 from by omega]
    simp
  | k, [], h => by have h' : 4 * k + 3 < 0 := h; omega
  | k, [_], h => by have h' : 4 * k + 3 < 1 := h; omega
  | k, [_, _], h => by have h' : 4 * k + 3 < 2 := h; omega
  | k, [_, _, _], h => by have h' : 4 * k + 3 < 3 := h; omega
theorem wordsN_len : ∀ (n : Nat) (l : List Nat), l.length = 4 * n → (wordsN l).length = n
  | 0, l, h => by
    have : l = [] := List.eq_nil_of_length_eq_zero (by omega)
    subst this; rfl
  | n + 1, l, h => by
    match l, h with
    | a :: b :: c :: d :: r, h => rw [wordsN, List.length_cons, wordsN_len n r (by simp at h; omega)]
theorem words_nat (b : List Nat) (hl : b.length = 64) (hb : N8 b) : ∀ k, k ≤ 16 → words16 (toI b) k = toI ((wordsN b).take k)
  | 0, _ => by simp [words16, toI]
  | k + 1, hk => by
    have h8 : B8 (toI b) := hb.toI
    have e0 := getD_b h8 (4 * k)
    have e1 := getD_b h8 (4 * k + 1)
    have e2 := getD_b h8 (4 * k + 2)
    have e3 := getD_b h8 (4 * k + 3)
    have hg := wordsN_get k b (by omega)
    rw [words16, words_nat b hl hb k (by omega), List.take_add_one, hg, wordS, wordR_eq _ _ _ _ e0.1 e0.2 e1.1 e1.2 e2.1 e2.2 e3.1 e3.2, toI_getD, toI_getD, toI_getD, toI_getD, toI_app]
    simp [toI]
theorem wordsN_b (b : List Nat) (hl : b.length = 64) (hb : N8 b) : N32 (wordsN b) := fun x hx => by
  obtain ⟨k, hk, rfl⟩ := List.mem_iff_getElem.1 hx
  have hlen := wordsN_len 16 b (by omega)
  have hg := wordsN_get k b (by omega)
  rw [List.getElem?_eq_getElem hk, Option.some.injEq] at hg
  rw [hg]
  have g : ∀ j, b.getD j 0 < 256 := fun j => by
    by_cases hj : j < b.length
    · have := hb b[j] (List.getElem_mem hj); simpa [hj] using this
    · simp [List.getElem?_eq_none (show b.length ≤ j by omega)]
  have := g (4 * k)
  have := g (4 * k + 1)
  have := g (4 * k + 2)
  have := g (4 * k + 3)
  omega

def addN : List Nat → List Nat → List Nat
  | a :: r, b :: s => (a + b) % 4294967296 :: addN r s
  | _, _ => []
def compN (S B : List Nat) : List Nat := addN S (runN K0N (wordsN B) S)
theorem add_nat (S T : List Nat) (hS : S.length = 8) (hT : T.length = 8) : addS (toI S) (toI T) 8 = toI (addN S T) ∧ (addN S T).length = 8 ∧ N32 (addN S T) := by
  match S, hS, T, hT with
  | [a, b, c, d, e, f, g, h], _, [a', b', c', d', e', f', g', h'], _ =>
    refine ⟨?_, rfl, ?_⟩
    · simp [addS, toI, addN, IntKind.wrap_u32']
    · intro y hy
      simp only [addN, List.mem_cons, List.not_mem_nil, or_false] at hy
      rcases hy with rfl | rfl | rfl | rfl | rfl | rfl | rfl | rfl <;> exact Nat.mod_lt _ (by decide)
theorem comp_nat (S B : List Nat) (hS : S.length = 8) (hbS : N32 S) (hB : B.length = 64) (hb : N8 B) : compS (toI S) (toI B) = toI (compN S B) ∧ (compN S B).length = 8 ∧ N32 (compN S B) := by
  have hw := words_nat B hB hb 16 (by omega)
  have hwl := wordsN_len 16 B (by omega)
  rw [List.take_of_length_le (by omega)] at hw
  obtain ⟨r1, r2, r3⟩ := run_nat (toI (wordsN B)) (toI S) (by rw [toI_len, hwl]) 64 0 (wordsN B) S (by omega) rfl (wordsN_b B hB hb) hwl rfl hbS hS
  rw [List.drop_zero] at r1 r2 r3
  unfold compS compN
  rw [hw, r1]
  exact add_nat S _ hS r3

def blocksN : Nat → List Nat → List Nat → List Nat
  | 0, S, _ => S
  | n + 1, S, m => blocksN n (compN S (m.take 64)) (m.drop 64)
theorem blocks_nat (P : List Nat) (hP : N8 P) : ∀ (n t : Nat) (S : List Nat), 64 * (t + n) ≤ P.length → blocksS (toI P) t = toI S → S.length = 8 → N32 S → blocksS (toI P) (t + n) = toI (blocksN n S (P.drop (64 * t)))
  | 0, t, S, _, h, _, _ => h
  | n + 1, t, S, hl, h, hS, hb => by
    have hB : ((P.drop (64 * t)).take 64).length = 64 := by simp; omega
    have h8 : N8 ((P.drop (64 * t)).take 64) := fun x hx => hP x (List.mem_of_mem_drop (List.mem_of_mem_take hx))
    obtain ⟨c1, c2, c3⟩ := comp_nat S _ hS hb hB h8
    have := blocks_nat P hP n (t + 1) (compN S ((P.drop (64 * t)).take 64)) (by omega) (by
      rw [blocksS, h, ← c1]
      simp [toI, List.map_drop, List.map_take]) c2 c3
    rw [show t + (n + 1) = t + 1 + n by omega, this, blocksN, List.drop_drop, show 64 * t + 64 = 64 * (t + 1) by omega]

def lensN (n : Nat) : List Nat := [n * 8 / 72057594037927936 % 256, n * 8 / 281474976710656 % 256, n * 8 / 1099511627776 % 256, n * 8 / 4294967296 % 256, n * 8 / 16777216 % 256, n * 8 / 65536 % 256, n * 8 / 256 % 256, n * 8 % 256]
/-- the padding behind a text whose length is n -/
def tailN (n : Nat) : List Nat := 128 :: (List.replicate ((119 - n % 64) % 64) 0 ++ lensN n)
theorem tail_b (n : Nat) : N8 (tailN n) := fun x hx => by
  rcases List.mem_cons.1 hx with rfl | hx
  · decide
  rcases List.mem_append.1 hx with hx | hx
  · obtain ⟨_, rfl⟩ := List.mem_replicate.1 hx; decide
  · simp only [lensN, List.mem_cons, List.not_mem_nil, or_false] at hx
    rcases hx with rfl | rfl | rfl | rfl | rfl | rfl | rfl | rfl <;> exact Nat.mod_lt _ (by decide)
theorem lens_nat (n : Nat) : lensTo n 8 = toI (lensN n) := by simp [lensTo, lenB, toI, lensN]
theorem pad_nat (m : List Nat) : padI (toI m) = toI (m ++ tailN m.length) := by
  rw [padI_eq, toI_len, lens_nat, toI_app]
  simp [tailN, toI]
theorem tail_len (n : Nat) : (tailN n).length = (119 - n % 64) % 64 + 9 := by simp [tailN, lensN]

/-- the words of a sum: S stands behind the first n bytes (whole blocks), m follows -/
def sumFrom (S : List Nat) (n : Nat) (m : List Nat) : List Nat := blocksN ((m.length + (119 - (n + m.length) % 64) % 64 + 9) / 64) S (m ++ tailN (n + m.length))
theorem sum_nat (m : List Nat) (hm : N8 m) : sha (toI m) = out4 (toI (sumFrom H0N 0 m)) := by
  rw [← sha_same _ hm.toI, shaS, pad_nat, toI_len]
  have hP : N8 (m ++ tailN m.length) := fun x hx => (List.mem_append.1 hx).elim (hm x) (tail_b _ x)
  have hl : (m ++ tailN m.length).length = m.length + (119 - m.length % 64) % 64 + 9 := by rw [List.length_append, tail_len]; omega
  have := blocks_nat (m ++ tailN m.length) hP ((m ++ tailN m.length).length / 64) 0 H0N (by omega) H0_nat rfl H0N_b
  rw [Nat.zero_add] at this
  rw [this, sumFrom, hl, Nat.zero_add]
  rfl
/-- a first block may be let in ahead -/
theorem sum_block (p m : List Nat) (hp : p.length = 64) : sumFrom H0N 0 (p ++ m) = sumFrom (compN H0N p) 64 m := by
  unfold sumFrom
  rw [List.length_append, hp, Nat.zero_add, show (64 + m.length + (119 - (64 + m.length) % 64) % 64 + 9) / 64 = (m.length + (119 - (64 + m.length) % 64) % 64 + 9) / 64 + 1 by omega, blocksN, List.append_assoc,
    List.take_append_of_le_length (by omega), List.take_of_length_le (by omega), List.drop_append_of_le_length (by omega), List.drop_of_length_le (by omega), List.nil_append]

end Go.Proofs.YtnpgdjckhkmiiaaDoor
