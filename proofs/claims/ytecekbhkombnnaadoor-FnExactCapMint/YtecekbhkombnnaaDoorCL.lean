/- Ids, limits and seals, by both. -/
import Derived.Test.YtecekbhkombnnaaDoorNI
import Derived.Test.YtecekbhkombnnaaDoorNS
import Derived.Shelf.Strings.Search2
import Derived.Shelf.Strings.SlTrimAscii
import Derived.Laws.Strings
namespace Go.Proofs.YtecekbhkombnnaaDoor
open Go.RowKit

/-- a text that is the id of a thing -/
def IdP (s : ByteArray) : Prop := 0 ≤ atB 46 s ∧ NameOk (headB 46 s) ∧ NameOk (restB 46 s)

def HexB (x : Nat) : Prop := (48 ≤ x ∧ x ≤ 57) ∨ (97 ≤ x ∧ x ≤ 102)
/-- a text that may be a seal -/
def SealP (s : ByteArray) : Prop := s.size = 64 ∧ ∀ j (h : j < s.size), HexB s[j].toNat

/-- the figures of seals -/
def hexC : ByteArray := ⟨#[48, 49, 50, 51, 52, 53, 54, 55, 56, 57, 97, 98, 99, 100, 101, 102]⟩
theorem hex_mem : ((List.range 256).all fun x => decide (hexC.data.toList.contains (UInt8.ofNat x) = true ↔ ((48 ≤ x ∧ x ≤ 57) ∨ (97 ≤ x ∧ x ≤ 102)))) = true := by decide +kernel
theorem hex_iff (c : UInt8) : hexC.data.toList.contains c = true ↔ HexB c.toNat := by
  have h := of_decide_eq_true (List.all_eq_true.1 hex_mem c.toNat (by have := c.toNat_lt; simp; omega))
  rw [show UInt8.ofNat c.toNat = c from by simp] at h
  exact h
theorem drop_nil (p : UInt8 → Bool) : ∀ l : List UInt8, l.dropWhile p = [] ↔ ∀ c ∈ l, p c = true
  | [] => by simp
  | a :: l => by
    rw [List.dropWhile_cons]
    by_cases h : p a = true
    · rw [if_pos h, drop_nil p l]; simp [h]
    · rw [if_neg h]; simp [h]
theorem drop_head (p : UInt8 → Bool) : ∀ (l : List UInt8) (a : UInt8) (t : List UInt8), l.dropWhile p = a :: t → p a = false
  | [], _, _, h => by cases h
  | b :: l, a, t, h => by
    rw [List.dropWhile_cons] at h
    by_cases hb : p b = true
    · rw [if_pos hb] at h; exact drop_head p l a t h
    · rw [if_neg hb] at h
      cases h
      simpa using hb
theorem trim_nil (s : ByteArray) : Lib.trimS s.data.toList hexC.data.toList = [] ↔ ∀ j (h : j < s.size), HexB s[j].toNat := by
  have e : Lib.trimS s.data.toList hexC.data.toList = [] ↔ ∀ c ∈ s.data.toList, hexC.data.toList.contains c = true := by
    unfold Lib.trimS Lib.trimLeftS Lib.trimRightS
    rw [drop_nil]
    constructor
    · intro h
      cases hr : s.data.toList.reverse.dropWhile (hexC.data.toList.contains ·) with
      | nil =>
        intro c hc
        exact (drop_nil _ _).1 hr c (List.mem_reverse.2 hc)
      | cons a t =>
        have h1 := drop_head _ _ a t hr
        have h2 := h a (by rw [hr]; simp)
        rw [h1] at h2; cases h2
    · intro h c hc
      have h1 : s.data.toList.reverse.dropWhile (hexC.data.toList.contains ·) = [] := (drop_nil _ _).2 (fun c hc => h c (List.mem_reverse.1 hc))
      rw [h1] at hc
      cases hc
  rw [e]
  constructor
  · intro h j hj
    exact (hex_iff _).1 (h _ (List.mem_of_getElem? (dataB_get s j hj)))
  · intro h c hc
    obtain ⟨j, hj, e⟩ := List.mem_iff_getElem.1 hc
    have hj2 : j < s.size := by simpa using hj
    have h2 := dataB_get s j hj2
    rw [List.getElem?_eq_getElem hj, e] at h2
    rw [Option.some.inj h2]
    exact (hex_iff _).2 (h j hj2)
end Go.Proofs.YtecekbhkombnnaaDoor
