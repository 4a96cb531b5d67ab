/- The codes that the law of the keyed sum compares: reckoned by the kernel, every key and every text that can be drawn. -/
import Derived.Test.YtnpgdjckhkmiiaaDoorN4
import Derived.Test.YtnpgdjckhkmiiaaDoorD1
namespace Go.Proofs.YtnpgdjckhkmiiaaDoor
open Go.RowKit

def repN : Nat → List Nat → List Nat
  | 0, _ => []
  | n + 1, l => l ++ repN n l
theorem rep_nat (l : List Nat) : ∀ n, repI n (toI l) = toI (repN n l)
  | 0 => rfl
  | n + 1 => by rw [repI, repN, rep_nat l n, toI_app]
theorem repN_b (l : List Nat) (h : N8 l) : ∀ n, N8 (repN n l)
  | 0 => fun x hx => by cases hx
  | n + 1 => N8.app h (repN_b l h n)
def keyF (k : List Nat) : List Nat := if 64 < k.length then outN (sumF H0N 0 k) else k
theorem keyF_eq (k : List Nat) (hk : N8 k) : keyF k = keyN k := by
  unfold keyF keyN
  rw [sumF_eq H0N 0 k rfl H0N_b hk]
def macF (k t : List Nat) : List Nat := sumF (compF H0N (wordsN (padKN (keyF k) 92))) 64 (outN (sumF (compF H0N (wordsN (padKN (keyF k) 54))) 64 t))
theorem macF_eq (k t : List Nat) (hk : N8 k) (ht : N8 t) : macF k t = macN (keyN k) t := by
  have h2 := (key_nat k hk).2
  obtain ⟨_, a1, a2⟩ := comp_nat H0N (padKN (keyN k) 54) rfl H0N_b (padKN_len _ _) (padKN_b _ h2 54 (by decide))
  obtain ⟨_, b1, b2⟩ := comp_nat H0N (padKN (keyN k) 92) rfl H0N_b (padKN_len _ _) (padKN_b _ h2 92 (by decide))
  unfold macF macN macFrom
  rw [keyF_eq k hk, compF_eq H0N _ rfl (padKN_len _ _), compF_eq H0N _ rfl (padKN_len _ _), sumF_eq _ 64 t a1 a2 ht, sumF_eq _ 64 _ b1 b2 (outN_b _)]

def differ (k : List Nat) (t : List Nat) : Bool := !Nat.beq ((macF k t).headD 0) ((macF (k ++ [33]) t).headD 0)
def macTest (n : Nat) : Bool := (List.range 40).all fun c => differ (repN n [107]) (repN c [109]) && differ (repN n [107]) (repN c [116, 101, 120, 116])
set_option maxRecDepth 1000000 in
theorem macTests : [0, 3, 63, 64, 65, 100].all macTest = true := by kernel_rfl

end Go.Proofs.YtnpgdjckhkmiiaaDoor
