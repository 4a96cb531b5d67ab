/- The code of a text by a key, over natural numbers; sums that differ are shown as figures that differ. -/
import Derived.Test.YtnpgdjckhkmiiaaDoorN2
import Derived.Test.YtnpgdjckhkmiiaaDoorM2
namespace Go.Proofs.YtnpgdjckhkmiiaaDoor
open Go.RowKit

def outN : List Nat → List Nat
  | [] => []
  | x :: r => x / 16777216 % 256 :: x / 65536 % 256 :: x / 256 % 256 :: x % 256 :: outN r
theorem out_nat : ∀ T : List Nat, out4 (toI T) = toI (outN T)
  | [] => rfl
  | x :: r => by
    have ih := out_nat r
    have : out4 (toI (x :: r)) = word4 (x : Int) ++ out4 (toI r) := by simp [out4, toI]
    rw [this, ih, outN, word4]
    simp [toI]
theorem outN_b : ∀ T : List Nat, N8 (outN T)
  | [] => fun x hx => by cases hx
  | y :: r => fun x hx => by
    simp only [outN, List.mem_cons] at hx
    rcases hx with rfl | rfl | rfl | rfl | hx
    · omega
    · omega
    · omega
    · omega
    · exact outN_b r x hx
def padKN (k : List Nat) (mk : Nat) : List Nat := (List.range 64).map fun j => k.getD j 0 ^^^ mk
theorem padKN_len (k : List Nat) (mk : Nat) : (padKN k mk).length = 64 := by simp [padKN]
theorem N8.get {l : List Nat} (h : N8 l) (j : Nat) : l.getD j 0 < 256 := by
  by_cases hj : j < l.length
  · have := h l[j] (List.getElem_mem hj); simpa [hj] using this
  · simp [List.getElem?_eq_none (show l.length ≤ j by omega)]
theorem padKN_b (k : List Nat) (hk : N8 k) (mk : Nat) (hm : mk < 256) : N8 (padKN k mk) := fun x hx => by
  obtain ⟨j, _, rfl⟩ := List.mem_map.1 hx
  exact Nat.xor_lt_two_pow (n := 8) (hk.get j) hm
theorem padK_nat (k : List Nat) (hk : N8 k) (mk : Nat) (hm : mk < 256) : padK (toI k) (mk : Int) = toI (padKN k mk) := by
  unfold padK maskT padKN toI
  rw [List.map_map]
  apply List.map_congr_left
  intro j _
  have := toI_getD k j
  unfold toI at this
  rw [this, u8_xor_nat _ _ (hk.get j) hm]
  rfl
/-- the words of the code: I and O stand behind the key's blocks -/
def macFrom (I O t : List Nat) : List Nat := sumFrom O 64 (outN (sumFrom I 64 t))
def macN (k t : List Nat) : List Nat := macFrom (compN H0N (padKN k 54)) (compN H0N (padKN k 92)) t
def keyN (k : List Nat) : List Nat := if 64 < k.length then outN (sumFrom H0N 0 k) else k
theorem sha_nat (m : List Nat) (hm : N8 m) : sha (toI m) = toI (outN (sumFrom H0N 0 m)) := by rw [sum_nat m hm, out_nat]
theorem N8.app {a b : List Nat} (ha : N8 a) (hb : N8 b) : N8 (a ++ b) := fun x hx => (List.mem_append.1 hx).elim (ha x) (hb x)
theorem key_nat (k : List Nat) (hk : N8 k) : keyI (toI k) = toI (keyN k) ∧ N8 (keyN k) := by
  unfold keyI keyN
  rw [toI_len]
  split
  · exact ⟨sha_nat k hk, outN_b _⟩
  · exact ⟨rfl, hk⟩
theorem mac_nat (k t : List Nat) (hk : N8 k) (ht : N8 t) : macI (toI k) (toI t) = toI (outN (macN (keyN k) t)) := by
  obtain ⟨h1, h2⟩ := key_nat k hk
  have p5 := padK_nat (keyN k) h2 54 (by decide)
  have p9 := padK_nat (keyN k) h2 92 (by decide)
  have e5 : ((54 : Nat) : Int) = 54 := rfl
  have e9 : ((92 : Nat) : Int) = 92 := rfl
  rw [e5] at p5
  rw [e9] at p9
  unfold macI macN macFrom
  rw [h1, p5, p9, ← toI_app, sha_nat _ ((padKN_b _ h2 54 (by decide)).app ht), sum_block _ _ (padKN_len _ _), ← toI_app, sha_nat _ ((padKN_b _ h2 92 (by decide)).app (outN_b _)), sum_block _ _ (padKN_len _ _)]

theorem hexD_inj (a b : Nat) (ha : a < 16) (hb : b < 16) (h : hexD a = hexD b) : a = b := by
  have all : ∀ a b : Fin 16, hexD a.val = hexD b.val → a = b := by decide
  exact congrArg Fin.val (all ⟨a, ha⟩ ⟨b, hb⟩ h)
theorem hexL_inj : ∀ (A B : List Int), B8 A → B8 B → hexL A = hexL B → A = B
  | [], [], _, _, _ => rfl
  | [], y :: B, _, _, h => by simp [hexL, hex2] at h
  | x :: A, [], _, _, h => by simp [hexL, hex2] at h
  | x :: A, y :: B, hA, hB, h => by
    have h' : hexD (x / 16).toNat :: hexD (x % 16).toNat :: hexL A = hexD (y / 16).toNat :: hexD (y % 16).toNat :: hexL B := h
    simp only [List.cons.injEq] at h'
    have hx := hA x (by simp)
    have hy := hB y (by simp)
    have e1 := hexD_inj _ _ (by omega) (by omega) h'.1
    have e2 := hexD_inj _ _ (by omega) (by omega) h'.2.1
    have e3 := hexL_inj A B (fun z hz => hA z (List.mem_cons_of_mem _ hz)) (fun z hz => hB z (List.mem_cons_of_mem _ hz)) h'.2.2
    rw [e3, show x = y by omega]
theorem show_inj (A B : List Int) (hA : B8 A) (hB : B8 B) (h : strI (hexL A) = strI (hexL B)) : A = B := by
  have := congrArg bI h
  rw [bI_strI _ (hexL_b A), bI_strI _ (hexL_b B)] at this
  exact hexL_inj A B hA hB this
theorem outN_inj : ∀ (A B : List Nat), N32 A → N32 B → outN A = outN B → A = B
  | [], [], _, _, _ => rfl
  | [], y :: B, _, _, h => by simp [outN] at h
  | x :: A, [], _, _, h => by simp [outN] at h
  | x :: A, y :: B, hA, hB, h => by
    simp only [outN, List.cons.injEq] at h
    have hx := hA x (by simp)
    have hy := hB y (by simp)
    rw [outN_inj A B (fun z hz => hA z (List.mem_cons_of_mem _ hz)) (fun z hz => hB z (List.mem_cons_of_mem _ hz)) h.2.2.2.2, show x = y by omega]

end Go.Proofs.YtnpgdjckhkmiiaaDoor
