/- A tape at which power fails: what is left. -/
import Derived.Test.YtpmjinlbfddmmaaPB
import Derived.Test.YtpmjinlbfddmmaaPC
import Derived.Test.YtpmjinlbfddmmaaPD
import Derived.Test.YtpmjinlbfddmmaaPE
namespace Go.Proofs.Ytpmjinlbfddmmaa
open Go.RowKit

def kept (ls : List ByteArray) (whole : Int) : Nat := (min (max whole 0) (ls.length : Int)).toNat
def cutB (x : ByteArray) (torn : Int) : ByteArray := x.extract 0 (min torn (x.size : Int)).toNat
/-- what is on the tape then -/
def crashL (ss ls : List ByteArray) (whole torn : Int) : List ByteArray :=
  if (kept ls whole : Int) < ls.length ∧ 0 < torn then ss ++ ls.take (kept ls whole) ++ [cutB (ls.getD (kept ls whole) ByteArray.empty) torn] else ss ++ ls.take (kept ls whole)
theorem kept_le (ls : List ByteArray) (whole : Int) : kept ls whole ≤ ls.length := by unfold kept; omega
theorem kept_eq (ls : List ByteArray) (whole : Int) : min (max whole 0) (ls.length : Int) = (kept ls whole : Int) := by unfold kept; omega
theorem extract_all (x : ByteArray) : x.extract 0 x.size = x := by simp
theorem at_take {w : World} {g : Nat} {ls : List ByteArray} (h : At w ⟨g, 0, none⟩ ls) (m : Nat) : At w ⟨g, 0, none⟩ (ls.take m) := fun j u hu => h j u (by
  simp only [strs, List.map_take] at hu ⊢
  rw [List.getElem?_take] at hu
  split at hu
  · exact hu
  · cases hu)
theorem at_cell {w : World} {g : Nat} {ls : List ByteArray} (h : At w ⟨g, 0, none⟩ ls) (m : Nat) (hm : m < ls.length) : w.cell? ⟨g, m, none⟩ = some (.string (ls.getD m ByteArray.empty)) := by
  have := h m (.string (ls.getD m ByteArray.empty)) (by simp [strs, hm])
  rw [Addr.add_mid, Nat.zero_add] at this
  exact this
theorem crashL_size (ss ls : List ByteArray) (whole torn : Int) (h : ∀ s ∈ ss ++ ls, s.size ≤ 1048576) : ∀ s ∈ crashL ss ls whole torn, s.size ≤ 1048576 := by
  intro s hs
  unfold crashL at hs
  split at hs
  · rename_i hc
    rcases List.mem_append.1 hs with hs | hs
    · rcases List.mem_append.1 hs with hs | hs
      · exact h s (List.mem_append.2 (.inl hs))
      · exact h s (List.mem_append.2 (.inr (List.mem_of_mem_take hs)))
    · have hs2 : s = cutB (ls.getD (kept ls whole) ByteArray.empty) torn := by simpa using hs
      have hk : kept ls whole < ls.length := by omega
      have hx := h (ls.getD (kept ls whole) ByteArray.empty) (List.mem_append.2 (.inr (by simp [hk])))
      rw [hs2]
      unfold cutB
      rw [ByteArray.size_extract]
      omega
  · rcases List.mem_append.1 hs with hs | hs
    · exact h s (List.mem_append.2 (.inl hs))
    · exact h s (List.mem_append.2 (.inr (List.mem_of_mem_take hs)))
theorem crashL_len (ss ls : List ByteArray) (whole torn : Int) : (crashL ss ls whole torn).length ≤ ss.length + ls.length := by
  have := kept_le ls whole
  unfold crashL
  split
  · rename_i hc
    have := hc.1
    simp
    omega
  · simp
    omega

theorem icrash_any (w : World) (gs cs gl cl : Nat) (ss ls : List ByteArray) (hs : At w ⟨gs, 0, none⟩ ss) (hl : At w ⟨gl, 0, none⟩ ls) (n1 : ss.length ≤ 1048576) (n2 : ls.length ≤ 1048576) (hcl : ls.length ≤ cl) (whole torn : Int) (hz : ∀ s ∈ ss ++ ls, s.size ≤ 1048576) :
    Calls Try.prog 17 #[.agg #[.slice (some ⟨gs, 0, none⟩) ss.length cs, .slice (some ⟨gl, 0, none⟩) ls.length cl], .int .i64 whole, .int .i64 torn] w fun e w' => ∃ v, e = .returned (.agg #[v, .slice none 0 0]) ∧ Row w' w.heap.size v (strs (crashL ss ls whole torn)) ∧ w.grownBy w' none := by
  have hz2 := crashL_size ss ls whole torn hz
  unfold crashL at hz2 ⊢
  by_cases hc : (kept ls whole : Int) < ls.length ∧ 0 < torn
  · rw [if_pos hc] at hz2 ⊢
    refine icrash_B w gs cs gl cl ss ls hs hl n1 n2 hcl whole torn (kept ls whole) (kept_eq ls whole) _ rfl hc.1 hc.2 _ rfl _ (by omega) ?_ hz2
    have := hc.2
    omega
  · rw [if_neg hc] at hz2 ⊢
    exact icrash_A w gs cs gl cl ss ls hs hl n1 n2 hcl whole torn (kept ls whole) (kept_le ls whole) (kept_eq ls whole) _ rfl hc hz2

theorem crash_any (w : World) (gs cs gl cl : Nat) (ss ls : List ByteArray) (hs : At w ⟨gs, 0, none⟩ ss) (hl : At w ⟨gl, 0, none⟩ ls) (n1 : ss.length ≤ 1048576) (n2 : ls.length ≤ 1048576) (hcl : ls.length ≤ cl) (whole torn : Int) :
    Calls Try.prog 16 #[.agg #[.slice (some ⟨gs, 0, none⟩) ss.length cs, .slice (some ⟨gl, 0, none⟩) ls.length cl], .int .i64 whole, .int .i64 torn] w fun e w' => ∃ v a2 c2, e = .returned (.agg #[v, .slice a2 0 c2]) ∧ Row w' w.heap.size v (strs (crashL ss ls whole torn)) ∧ w.grownBy w' none := by
  unfold crashL
  have hke := kept_eq ls whole
  have hkl := kept_le ls whole
  generalize kept ls whole = m at hke hkl ⊢
  have hTl : (ls.take m).length = m := by simp; omega
  have hLT := at_take hl m
  by_cases hc : (m : Int) < ls.length ∧ 0 < torn
  · rw [if_pos hc]
    have hx := at_cell hl m (by have := hc.1; omega)
    generalize ls.getD m ByteArray.empty = x at hx ⊢
    generalize ls.take m = T at hTl hLT ⊢
    unfold cutB
    have hc1 := hc.1
    have hc2 := hc.2
    by_cases ht : torn < (x.size : Int)
    · obtain ⟨n, rfl⟩ : ∃ n : Nat, torn = n := ⟨torn.toNat, by omega⟩
      rw [show (min (n : Int) (x.size : Int)).toNat = n from by omega]
      by_cases hw : whole < 0
      · obtain rfl : m = 0 := by omega
        exact crash_B1c w gs cs gl cl ss ls hs hl n1 n2 hcl whole _ T hw hTl hLT (by simpa using hc1) x hx n rfl (by omega) (by omega)
      · exact crash_B2c w gs cs gl cl ss ls hs hl n1 n2 hcl whole _ T m (by omega) hTl hLT hc1 x hx n rfl (by omega) (by omega)
    · rw [show (min torn (x.size : Int)).toNat = x.size from by omega, extract_all]
      by_cases hw : whole < 0
      · obtain rfl : m = 0 := by omega
        exact crash_B1f w gs cs gl cl ss ls hs hl n1 n2 hcl whole torn T hw hTl hLT (by simpa using hc1) x hx hc2 (by omega)
      · exact crash_B2f w gs cs gl cl ss ls hs hl n1 n2 hcl whole torn T m (by omega) hTl hLT hc1 x hx hc2 (by omega)
  · rw [if_neg hc]
    generalize ls.take m = T at hTl hLT ⊢
    by_cases hw : whole < 0
    · obtain rfl : m = 0 := by omega
      exact crash_A1 w gs cs gl cl ss ls hs hl n1 n2 hcl whole torn T hw hTl hLT (by simpa using hc)
    · by_cases hw2 : (ls.length : Int) < whole
      · obtain rfl : m = ls.length := by omega
        exact crash_A3 w gs cs gl cl ss ls hs hl n1 n2 hcl whole torn T hw2 hTl hLT
      · exact crash_A2 w gs cs gl cl ss ls hs hl n1 n2 hcl whole torn T m hkl (by omega) hTl hLT hc
end Go.Proofs.Ytpmjinlbfddmmaa
