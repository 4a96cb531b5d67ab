/- The first word of a line, and numbers, by the document. -/
import Derived.Test.YtecekbhkombnnaaGreatDoorN1
import Derived.Test.YtecekbhkombnnaaGreatDoorNM
namespace Go.Proofs.YtecekbhkombnnaaGreatDoor
open Go.RowKit

set_option maxRecDepth 100000 in
set_option maxHeartbeats 4000000 in
theorem shead_any (w : World) (p : ByteArray) (hs : p.size ≤ 1048576) : Calls Tryz.prog 49 #[.string p] w fun e w' => e = .returned (.tuple #[.string (headB 32 p), .string (restB 32 p)]) ∧ w.grownBy w' none := by
  go_enter Tryz.func49, Tryz.ntmps49
  go_wp2
  go_loop [4] (fun i => ∃ k : Nat, k ≤ p.size ∧ i = .int .i64 k ∧ Hid (∀ j (h : j < p.size), j < k → p[j].toNat ≠ (32 : UInt8).toNat)) (fun i => p.size - (intOf i).toNat)
  case atStart => exact ⟨0, Nat.zero_le _, rfl, Lib.hid fun j _ h => absurd h (Nat.not_lt_zero _)⟩
  case round =>
    obtain ⟨k, hk, rfl, HA⟩ := hrel
    by_cases hlt : k < p.size
    · have hkI : (k : Int) < p.size := by omega
      have hkI2 : (k : Int) ≤ p.size := by omega
      obtain ⟨x, hx⟩ : ∃ x : Nat, p[k].toNat = x := ⟨_, rfl⟩
      have HX := Lib.hid hx
      by_cases c1 : (x : Int) = 32
      · have c1b : ((x : Int) == 32) = true := by rw [beq_iff_eq]; exact c1
        have hn := atB_at 32 p k hlt (by rw [HX.out]; show x = 32; omega) HA.out
        have HR := Lib.hid (restB_at 32 p k hn)
        have HH := Lib.hid (headB_at 32 p k hn)
        have c4 : (k : Int) + 1 ≤ p.size := by omega
        have c5 : IntKind.i64.wrap ((k : Int) + 1) = (k : Int) + 1 := by rw [IntKind.wrap_i64]; omega
        clear c1 hn
        go_wp2
        go_region
        go_wp2
        go_ret2
        exact ⟨by rw [HR.out, HH.out]; rfl, grown_drew (grown_refl _ _)⟩
      · have c1b : ((x : Int) == 32) = false := by rw [beq_eq_false_iff_ne]; exact c1
        have HA2 := Lib.hid (show ∀ j (h : j < p.size), j < k + 1 → p[j].toNat ≠ (32 : UInt8).toNat from fun j h hj => by
          by_cases e : j = k
          · subst e; rw [HX.out]; show x ≠ 32; omega
          · exact HA.out j h (by omega))
        clear c1
        go_wp2
        exact ⟨⟨k + 1, by omega, by go_num, HA2⟩, by simp [intOf]; omega⟩
    · obtain rfl : k = p.size := by omega
      have hn := atB_no 32 p (fun j h => HA.out j h h)
      have HR := Lib.hid (restB_none 32 p hn)
      have HH := Lib.hid (headB_none 32 p hn)
      clear hn
      go_wp2
      go_ret2
      exact ⟨by rw [HR.out, HH.out]; rfl, grown_refl _ _⟩

end Go.Proofs.YtecekbhkombnnaaGreatDoor
