/- The program's texts, numbers and names. -/
import Derived.Test.YtgmigloafcejdaaDoorHX
namespace Go.Proofs.YtgmigloafcejdaaDoor
open Go.RowKit

set_option maxHeartbeats 1000000 in
theorem inumOk_any (w : World) (n : Int) : Calls Tryd.prog 63 #[.int .i64 n] w fun e w' => Says e (InR (-999999) n 999999) ∧ w' = w := by
  by_cases h1 : -999999 ≤ n
  · by_cases h2 : n ≤ 999999
    · have HD := Lib.hid (show Says (.returned (.bool true)) (InR (-999999) n 999999) from .yes ⟨h1, h2⟩)
      go_enter Tryd.func63, Tryd.ntmps63
      go_wp2
      go_ret
      exact ⟨HD.out, rfl⟩
    · have HD := Lib.hid (show Says (.returned (.bool false)) (InR (-999999) n 999999) from .no (fun h => h2 h.2))
      go_enter Tryd.func63, Tryd.ntmps63
      go_wp2
      go_ret
      exact ⟨HD.out, rfl⟩
  · have HD := Lib.hid (show Says (.returned (.bool false)) (InR (-999999) n 999999) from .no (fun h => h1 h.1))
    go_enter Tryd.func63, Tryd.ntmps63
    go_wp2
    go_ret
    exact ⟨HD.out, rfl⟩

set_option maxRecDepth 100000 in
set_option maxHeartbeats 2000000 in
theorem inameOk_any (w : World) (s : ByteArray) (hs : s.size ≤ 1048576) : Calls Tryd.prog 89 #[.string s] w fun e w' => Says e (NameOk s) ∧ w' = w := by
  by_cases h1 : (s.size : Int) < 1
  · have HD := Lib.hid (show Says (.returned (.bool false)) (NameOk s) from .no (fun h => by have := h.1; omega))
    go_enter Tryd.func89, Tryd.ntmps89
    go_wp2
    go_ret
    exact ⟨HD.out, rfl⟩
  by_cases h7 : (7 : Int) < s.size
  · have HD := Lib.hid (show Says (.returned (.bool false)) (NameOk s) from .no (fun h => by have := h.2.1; omega))
    go_enter Tryd.func89, Tryd.ntmps89
    go_wp2
    go_ret
    exact ⟨HD.out, rfl⟩
  go_enter Tryd.func89, Tryd.ntmps89
  go_wp2
  go_loop [17] (fun i => ∃ k : Nat, k ≤ s.size ∧ i = .int .i64 k ∧ Hid (∀ j (h : j < s.size), j < k → Letter s[j].toNat ∨ (Figure s[j].toNat ∧ 0 < j))) (fun i => s.size - (intOf i).toNat)
  case atStart => exact ⟨0, Nat.zero_le _, rfl, Lib.hid fun j _ h => absurd h (Nat.not_lt_zero _)⟩
  case round =>
    obtain ⟨k, hk, rfl, HA⟩ := hrel
    by_cases hlt : k < s.size
    · have hkI : (k : Int) < s.size := by omega
      obtain ⟨x, hx⟩ : ∃ x : Nat, s[k].toNat = x := ⟨_, rfl⟩
      have HX := Lib.hid hx
      have HNO := Lib.hid (fun hb : ¬ (Letter x ∨ (Figure x ∧ 0 < k)) => show Says (.returned (.bool false)) (NameOk s) from .no fun h => hb (by have := h.2.2 k hlt; rwa [HX.out] at this))
      have HGO := Lib.hid (fun hb : Letter x ∨ (Figure x ∧ 0 < k) => fun j (h : j < s.size) (hj : j < k + 1) => show Letter s[j].toNat ∨ (Figure s[j].toNat ∧ 0 < j) from by
        by_cases e : j = k
        · subst e; rw [HX.out]; exact hb
        · exact HA.out j h (by omega))
      by_cases c1 : (97 : Int) ≤ (x : Int)
      · by_cases c2 : (x : Int) ≤ 122
        · by_cases c3 : (48 : Int) ≤ (x : Int)
          · by_cases c4 : (x : Int) ≤ 57
            · omega
            go_wp2
            exact ⟨⟨k + 1, by omega, by go_num, Lib.hid (HGO.out (.inl ⟨by omega, by omega⟩))⟩, by simp [intOf]; omega⟩
          omega
        · by_cases c4 : (x : Int) ≤ 57
          · omega
          by_cases k0 : (k : Int) = 0
          · have k0b : ((k : Int) == 0) = true := by simp [k0]
            have K0 := Lib.hid k0
            clear k0
            go_wp2
            go_ret
            exact ⟨HNO.out (fun h => h.elim (fun h => by have := K0.out; have := h.2; omega) (fun h => by have := K0.out; have := h.2; omega)), rfl⟩
          have k0b : ((k : Int) == 0) = false := by rw [beq_eq_false_iff_ne]; exact k0
          have K0 := Lib.hid k0
          clear k0
          go_wp2
          go_ret
          exact ⟨HNO.out (fun h => h.elim (fun h => by have := K0.out; have := h.2; omega) (fun h => by have := K0.out; have := h.1.2; omega)), rfl⟩
      · by_cases c3 : (48 : Int) ≤ (x : Int)
        · by_cases c4 : (x : Int) ≤ 57
          · by_cases k0 : (k : Int) = 0
            · have k0b : ((k : Int) == 0) = true := by simp [k0]
              have K0 := Lib.hid k0
              clear k0
              go_wp2
              go_ret
              exact ⟨HNO.out (fun h => h.elim (fun h => by have := K0.out; have := h.1; omega) (fun h => by have := K0.out; have := h.2; omega)), rfl⟩
            have k0b : ((k : Int) == 0) = false := by rw [beq_eq_false_iff_ne]; exact k0
            have K0 := Lib.hid k0
            clear k0
            go_wp2
            exact ⟨⟨k + 1, by omega, by go_num, Lib.hid (HGO.out (.inr ⟨⟨by omega, by omega⟩, by have := K0.out; omega⟩))⟩, by simp [intOf]; omega⟩
          · by_cases k0 : (k : Int) = 0
            · have k0b : ((k : Int) == 0) = true := by simp [k0]
              have K0 := Lib.hid k0
              clear k0
              go_wp2
              go_ret
              exact ⟨HNO.out (fun h => h.elim (fun h => by have := K0.out; have := h.1; omega) (fun h => by have := K0.out; have := h.2; omega)), rfl⟩
            have k0b : ((k : Int) == 0) = false := by rw [beq_eq_false_iff_ne]; exact k0
            have K0 := Lib.hid k0
            clear k0
            go_wp2
            go_ret
            exact ⟨HNO.out (fun h => h.elim (fun h => by have := K0.out; have := h.1; omega) (fun h => by have := K0.out; have := h.1.2; omega)), rfl⟩
        · by_cases k0 : (k : Int) = 0
          · have k0b : ((k : Int) == 0) = true := by simp [k0]
            have K0 := Lib.hid k0
            clear k0
            go_wp2
            go_ret
            exact ⟨HNO.out (fun h => h.elim (fun h => by have := K0.out; have := h.1; omega) (fun h => by have := K0.out; have := h.2; omega)), rfl⟩
          have k0b : ((k : Int) == 0) = false := by rw [beq_eq_false_iff_ne]; exact k0
          have K0 := Lib.hid k0
          clear k0
          go_wp2
          go_ret
          exact ⟨HNO.out (fun h => h.elim (fun h => by have := K0.out; have := h.1; omega) (fun h => by have := K0.out; have := h.1.1; omega)), rfl⟩
    · obtain rfl : k = s.size := by omega
      have HD := Lib.hid (show Says (.returned (.bool true)) (NameOk s) from .yes ⟨by omega, by omega, fun j h => HA.out j h h⟩)
      go_wp2
      go_ret
      exact ⟨HD.out, rfl⟩
end Go.Proofs.YtgmigloafcejdaaDoor
