/- The bytes of a rune behind its first are none that stands for itself. No program is named here. -/
import Derived.Laws.RangeAny
namespace Go.Proofs.YtecekbhkombnnaaDoor

theorem get_bang (s : ByteArray) (j : Nat) (h : j < s.size) : s.get! j = s[j] := by
  simp [ByteArray.get!, getElem!_pos, h]
  rfl
set_option maxHeartbeats 1000000 in
theorem decode_rest (s : ByteArray) (pos : Nat) : ∀ j (hj : j < s.size), pos < j → j < pos + (Utf8.decode s pos).2 → 128 ≤ s[j].toNat := by
  intro j hj h1 h2
  obtain ⟨d, rfl⟩ : ∃ d, j = pos + d := ⟨j - pos, by omega⟩
  have hg := get_bang s (pos + d) hj
  have hd : d < (Utf8.decode s pos).2 := by omega
  have hd0 : 0 < d := by omega
  rw [← hg]
  clear hg h1 h2
  revert hd
  simp only [Utf8.decode]
  repeat' split
  all_goals
    intro hd
    simp only at hd
    first
      | omega
      | (have hc : d = 1 := by omega
         subst hc
         simp_all
         omega)
      | (have hc : d = 1 ∨ d = 2 := by omega
         rcases hc with rfl | rfl <;> (simp_all; omega))
      | (have hc : d = 1 ∨ d = 2 ∨ d = 3 := by omega
         rcases hc with rfl | rfl | rfl <;> (simp_all; omega))
end Go.Proofs.YtecekbhkombnnaaDoor
