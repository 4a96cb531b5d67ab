/- The document's texts and names. -/
import Derived.Test.YtgmigloafcejdaaGreatDoorV5
namespace Go.Proofs.YtgmigloafcejdaaGreatDoor
open Go.RowKit

/-- a call answers whether something holds -/
def Says (e : Ending) (p : Prop) : Prop := ∃ b, e = .returned (.bool b) ∧ (b = true ↔ p)
theorem Says.yes {p : Prop} (h : p) : Says (.returned (.bool true)) p := ⟨true, rfl, ⟨fun _ => h, fun _ => rfl⟩⟩
theorem Says.no {p : Prop} (h : ¬ p) : Says (.returned (.bool false)) p := ⟨false, rfl, ⟨(fun e => by cases e), fun hp => absurd hp h⟩⟩

def InR (lo n hi : Int) : Prop := lo ≤ n ∧ n ≤ hi

set_option maxHeartbeats 1000000 in
theorem l1in_any (w : World) (n lo hi : Int) : Calls Tryz.prog 106 #[.int .i64 n, .int .i64 lo, .int .i64 hi] w fun e w' => Says e (InR lo n hi) ∧ w' = w := by
  by_cases h1 : lo ≤ n
  · by_cases h2 : n ≤ hi
    · have HD := Lib.hid (show Says (.returned (.bool true)) (InR lo n hi) from .yes ⟨h1, h2⟩)
      go_enter Tryz.func106, Tryz.ntmps106
      go_wp2
      go_ret
      exact ⟨HD.out, rfl⟩
    · have HD := Lib.hid (show Says (.returned (.bool false)) (InR lo n hi) from .no (fun h => h2 h.2))
      go_enter Tryz.func106, Tryz.ntmps106
      go_wp2
      go_ret
      exact ⟨HD.out, rfl⟩
  · have HD := Lib.hid (show Says (.returned (.bool false)) (InR lo n hi) from .no (fun h => h1 h.1))
    go_enter Tryz.func106, Tryz.ntmps106
    go_wp2
    go_ret
    exact ⟨HD.out, rfl⟩

def ByteOk (x : Nat) : Prop := 32 ≤ x ∧ x ≤ 126 ∧ x ≠ 34
/-- a text that may be in a value -/
def TextOk (t : ByteArray) : Prop := (∀ k (h : k < t.size), ByteOk t[k].toNat) ∧ t.size ≤ 16

set_option maxRecDepth 100000 in
set_option maxHeartbeats 1000000 in
theorem textOk_any (w : World) (t : ByteArray) (ht : t.size ≤ 1048576) : Calls Tryz.prog 107 #[.string t] w fun e w' => Says e (TextOk t) ∧ w' = w := by
  go_enter Tryz.func107, Tryz.ntmps107
  go_wp2
  go_loop [3] (fun i => ∃ k : Nat, k ≤ t.size ∧ i = .int .i64 k ∧ Hid (∀ j (h : j < t.size), j < k → ByteOk t[j].toNat)) (fun i => t.size - (intOf i).toNat)
  case atStart => exact ⟨0, Nat.zero_le _, rfl, Lib.hid fun j _ h => absurd h (Nat.not_lt_zero _)⟩
  case round =>
    obtain ⟨k, hk, rfl, HA⟩ := hrel
    by_cases hlt : k < t.size
    · have hkI : (k : Int) < t.size := by omega
      obtain ⟨x, hx⟩ : ∃ x : Nat, t[k].toNat = x := ⟨_, rfl⟩
      have HX := Lib.hid hx
      have HNO := Lib.hid (fun hb : ¬ ByteOk x => show Says (.returned (.bool false)) (TextOk t) from .no fun h => hb (by have := h.1 k hlt; rwa [HX.out] at this))
      by_cases c1 : (x : Int) < 32
      · go_wp2
        go_ret
        exact ⟨HNO.out (fun h => by have := h.1; omega), rfl⟩
      by_cases c2 : (126 : Int) < (x : Int)
      · go_wp2
        go_ret
        exact ⟨HNO.out (fun h => by have := h.2.1; omega), rfl⟩
      by_cases c3 : (x : Int) = 34
      · go_wp2
        go_ret
        exact ⟨HNO.out (fun h => by have := h.2.2; omega), rfl⟩
      have HB := Lib.hid (show ByteOk x from ⟨by omega, by omega, by omega⟩)
      have c3b : ((x : Int) == 34) = false := by rw [beq_eq_false_iff_ne]; exact c3
      go_wp2
      exact ⟨⟨k + 1, by omega, by go_num, Lib.hid fun j h hj => by
        by_cases e : j = k
        · subst e; rw [HX.out]; exact HB.out
        · exact HA.out j h (by omega)⟩, by simp [intOf]; omega⟩
    · obtain rfl : k = t.size := by omega
      by_cases hs : (t.size : Int) ≤ 16
      · have HD := Lib.hid (show Says (.returned (.bool true)) (TextOk t) from .yes ⟨fun j h => HA.out j h h, by omega⟩)
        go_wp2
        go_ret
        exact ⟨HD.out, rfl⟩
      · have HD := Lib.hid (show Says (.returned (.bool false)) (TextOk t) from .no (fun h => by have := h.2; omega))
        go_wp2
        go_ret
        exact ⟨HD.out, rfl⟩
end Go.Proofs.YtgmigloafcejdaaGreatDoor
