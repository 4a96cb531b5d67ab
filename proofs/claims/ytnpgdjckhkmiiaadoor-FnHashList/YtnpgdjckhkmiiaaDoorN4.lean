/- The same, spelt out for the kernel: raw numbers, no lists inside a block. -/
import Derived.Test.YtnpgdjckhkmiiaaDoorN3
namespace Go.Proofs.YtnpgdjckhkmiiaaDoor
open Go.RowKit

def rorF (x p q : Nat) : Nat := Nat.lor (Nat.mod (Nat.mul x p) (nat_lit 4294967296)) (Nat.div x q)
def sg0F (x : Nat) : Nat := Nat.xor (Nat.xor (rorF x (nat_lit 33554432) (nat_lit 128)) (rorF x (nat_lit 16384) (nat_lit 262144))) (Nat.div x (nat_lit 8))
def sg1F (x : Nat) : Nat := Nat.xor (Nat.xor (rorF x (nat_lit 32768) (nat_lit 131072)) (rorF x (nat_lit 8192) (nat_lit 524288))) (Nat.div x (nat_lit 1024))
def bs1F (e : Nat) : Nat := Nat.xor (Nat.xor (rorF e (nat_lit 67108864) (nat_lit 64)) (rorF e (nat_lit 2097152) (nat_lit 2048))) (rorF e (nat_lit 128) (nat_lit 33554432))
def bs0F (a : Nat) : Nat := Nat.xor (Nat.xor (rorF a (nat_lit 1073741824) (nat_lit 4)) (rorF a (nat_lit 524288) (nat_lit 8192))) (rorF a (nat_lit 1024) (nat_lit 4194304))
def chF (e f g : Nat) : Nat := Nat.xor (Nat.land e f) (Nat.land (Nat.xor (nat_lit 4294967295) e) g)
def mjF (a b c : Nat) : Nat := Nat.xor (Nat.xor (Nat.land a b) (Nat.land a c)) (Nat.land b c)
def extF (x0 x1 x9 x14 : Nat) : Nat := Nat.mod (Nat.add (Nat.add (Nat.add x0 (sg0F x1)) x9) (sg1F x14)) (nat_lit 4294967296)
def t1F (e f g h k x : Nat) : Nat := Nat.mod (Nat.add (Nat.add (Nat.add (Nat.add h (bs1F e)) (chF e f g)) k) x) (nat_lit 4294967296)
def newA (t a b c : Nat) : Nat := Nat.mod (Nat.add (Nat.add t (bs0F a)) (mjF a b c)) (nat_lit 4294967296)
def newE (t d : Nat) : Nat := Nat.mod (Nat.add d t) (nat_lit 4294967296)
def runF : List Nat → Nat → Nat → Nat → Nat → Nat → Nat → Nat → Nat → Nat → Nat → Nat → Nat → Nat → Nat → Nat → Nat → Nat → Nat → Nat → Nat → Nat → Nat → Nat → Nat → List Nat
  | [], _, _, _, _, _, _, _, _, _, _, _, _, _, _, _, _, a, b, c, d, e, f, g, h => [a, b, c, d, e, f, g, h]
  | k :: ks, x0, x1, x2, x3, x4, x5, x6, x7, x8, x9, x10, x11, x12, x13, x14, x15, a, b, c, d, e, f, g, h => runF ks x1 x2 x3 x4 x5 x6 x7 x8 x9 x10 x11 x12 x13 x14 x15 (extF x0 x1 x9 x14) (newA (t1F e f g h k x0) a b c) a b c (newE (t1F e f g h k x0) d) e f g
theorem runF_eq : ∀ (ks : List Nat) (x0 x1 x2 x3 x4 x5 x6 x7 x8 x9 x10 x11 x12 x13 x14 x15 a b c d e f g h : Nat), runF ks x0 x1 x2 x3 x4 x5 x6 x7 x8 x9 x10 x11 x12 x13 x14 x15 a b c d e f g h = runN ks [x0, x1, x2, x3, x4, x5, x6, x7, x8, x9, x10, x11, x12, x13, x14, x15] [a, b, c, d, e, f, g, h]
  | [], _, _, _, _, _, _, _, _, _, _, _, _, _, _, _, _, _, _, _, _, _, _, _, _ => rfl
  | k :: ks, x0, x1, x2, x3, x4, x5, x6, x7, x8, x9, x10, x11, x12, x13, x14, x15, a, b, c, d, e, f, g, h => by
    rw [runF, runF_eq ks, runN]
    rfl
def compF : List Nat → List Nat → List Nat
  | [a, b, c, d, e, f, g, h], [x0, x1, x2, x3, x4, x5, x6, x7, x8, x9, x10, x11, x12, x13, x14, x15] => addN [a, b, c, d, e, f, g, h] (runF K0N x0 x1 x2 x3 x4 x5 x6 x7 x8 x9 x10 x11 x12 x13 x14 x15 a b c d e f g h)
  | _, _ => []
theorem compF_eq (S B : List Nat) (hS : S.length = 8) (hB : B.length = 64) : compF S (wordsN B) = compN S B := by
  have hw := wordsN_len 16 B (by omega)
  unfold compN
  match S, hS, wordsN B, hw with
  | [a, b, c, d, e, f, g, h], _, [x0, x1, x2, x3, x4, x5, x6, x7, x8, x9, x10, x11, x12, x13, x14, x15], _ => rw [compF, runF_eq]
def blocksF : Nat → List Nat → List Nat → List Nat
  | 0, S, _ => S
  | n + 1, S, m => blocksF n (compF S (wordsN (m.take 64))) (m.drop 64)
theorem blocksF_eq : ∀ (n : Nat) (S m : List Nat), S.length = 8 → N32 S → N8 m → 64 * n ≤ m.length → blocksF n S m = blocksN n S m
  | 0, _, _, _, _, _, _ => rfl
  | n + 1, S, m, hS, hb, h8, hm => by
    have h64 : (m.take 64).length = 64 := by simp; omega
    obtain ⟨_, c2, c3⟩ := comp_nat S (m.take 64) hS hb h64 (fun x hx => h8 x (List.mem_of_mem_take hx))
    rw [blocksF, blocksN, compF_eq S _ hS h64, blocksF_eq n _ _ c2 c3 (fun x hx => h8 x (List.mem_of_mem_drop hx)) (by simp; omega)]
def sumF (S : List Nat) (n : Nat) (m : List Nat) : List Nat := blocksF ((m.length + (119 - (n + m.length) % 64) % 64 + 9) / 64) S (m ++ tailN (n + m.length))
theorem sumF_eq (S : List Nat) (n : Nat) (m : List Nat) (hS : S.length = 8) (hb : N32 S) (hm : N8 m) : sumF S n m = sumFrom S n m := by
  unfold sumF sumFrom
  refine blocksF_eq _ S _ hS hb (hm.app (tail_b _)) ?_
  rw [List.length_append, tail_len]
  omega
theorem blocksN_b : ∀ (n : Nat) (S m : List Nat), S.length = 8 → N32 S → N8 m → 64 * n ≤ m.length → N32 (blocksN n S m)
  | 0, _, _, _, hb, _, _ => hb
  | n + 1, S, m, hS, hb, h8, hm => by
    have h64 : (m.take 64).length = 64 := by simp; omega
    obtain ⟨_, c2, c3⟩ := comp_nat S (m.take 64) hS hb h64 (fun x hx => h8 x (List.mem_of_mem_take hx))
    rw [blocksN]
    exact blocksN_b n _ _ c2 c3 (fun x hx => h8 x (List.mem_of_mem_drop hx)) (by simp; omega)
theorem sumFrom_b (S : List Nat) (n : Nat) (m : List Nat) (hS : S.length = 8) (hb : N32 S) (hm : N8 m) : N32 (sumFrom S n m) := by
  unfold sumFrom
  refine blocksN_b _ S _ hS hb (hm.app (tail_b _)) ?_
  rw [List.length_append, tail_len]
  omega

end Go.Proofs.YtnpgdjckhkmiiaaDoor
