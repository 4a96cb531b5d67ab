/- Names, by the document and by the program. -/
import Derived.Test.YtdelijobaebfnaaDoorMv4
import Derived.Test.YtdelijobaebfnaaDoorChecked
import Derived.Laws.Strings
namespace Go.Proofs.YtdelijobaebfnaaDoor
open Go.RowKit

/-- a call answers whether something holds -/
def Says (e : Ending) (p : Prop) : Prop := ∃ b, e = .returned (.bool b) ∧ (b = true ↔ p)
theorem Says.yes {p : Prop} (h : p) : Says (.returned (.bool true)) p := ⟨true, rfl, ⟨fun _ => h, fun _ => rfl⟩⟩
theorem Says.no {p : Prop} (h : ¬ p) : Says (.returned (.bool false)) p := ⟨false, rfl, ⟨(fun e => by cases e), fun hp => absurd hp h⟩⟩

def InR (lo n hi : Int) : Prop := lo ≤ n ∧ n ≤ hi

set_option maxHeartbeats 1000000 in
theorem l1in_any (w : World) (n lo hi : Int) : Calls Tryd.prog 63 #[.int .i64 n, .int .i64 lo, .int .i64 hi] w fun e w' => Says e (InR lo n hi) ∧ w' = w := by
  by_cases h1 : lo ≤ n
  · by_cases h2 : n ≤ hi
    · have HD := Lib.hid (show Says (.returned (.bool true)) (InR lo n hi) from .yes ⟨h1, h2⟩)
      go_enter Tryd.func63, Tryd.ntmps63
      go_wp2
      go_ret
      exact ⟨HD.out, rfl⟩
    · have HD := Lib.hid (show Says (.returned (.bool false)) (InR lo n hi) from .no (fun h => h2 h.2))
      go_enter Tryd.func63, Tryd.ntmps63
      go_wp2
      go_ret
      exact ⟨HD.out, rfl⟩
  · have HD := Lib.hid (show Says (.returned (.bool false)) (InR lo n hi) from .no (fun h => h1 h.1))
    go_enter Tryd.func63, Tryd.ntmps63
    go_wp2
    go_ret
    exact ⟨HD.out, rfl⟩

def Letter (x : Nat) : Prop := 97 ≤ x ∧ x ≤ 122
def Figure (x : Nat) : Prop := 48 ≤ x ∧ x ≤ 57
/-- a text that is a name -/
def NameOk (s : ByteArray) : Prop := 1 ≤ s.size ∧ s.size ≤ 7 ∧ ∀ k (h : k < s.size), Letter s[k].toNat ∨ (Figure s[k].toNat ∧ 0 < k)

set_option maxRecDepth 100000 in
set_option maxHeartbeats 2000000 in
theorem nameOkS_any (w : World) (s : ByteArray) (hs : s.size ≤ 1048576) : Calls Tryd.prog 47 #[.string s] w fun e w' => Says e (NameOk s) ∧ w' = w := by
  have HIN := Lib.hid (l1in_any w (s.size : Int) 1 7)
  go_enter Tryd.func47, Tryd.ntmps47
  go_wp2_with fail
  refine HIN.out.mono ?_
  rintro e w1 ⟨⟨b, rfl, hb⟩, hw⟩
  have hw := hw.symm
  subst hw
  have HB := Lib.hid hb
  clear hb HIN
  cases b
  · have HD := Lib.hid (show Says (.returned (.bool false)) (NameOk s) from .no (fun h => by
      have h1 := HB.out.2 ⟨by have := h.1; omega, by have := h.2.1; omega⟩
      cases h1))
    go_wp2
    go_ret
    exact ⟨HD.out, rfl⟩
  have hin := HB.out.1 rfl
  have h1 : 0 < s.size := by have := hin.1; omega
  have h7 : s.size ≤ 7 := by have := hin.2; omega
  clear hin HB
  obtain ⟨x0, hx0⟩ : ∃ x : Nat, s[0].toNat = x := ⟨_, rfl⟩
  have HX0 := Lib.hid hx0
  by_cases c1 : (x0 : Int) < 97
  · have HD := Lib.hid (show Says (.returned (.bool false)) (NameOk s) from .no (fun h => by
      have h2 := h.2.2 0 h1
      rw [HX0.out] at h2
      rcases h2 with h2 | h2
      · have := h2.1; omega
      · exact absurd h2.2 (Nat.lt_irrefl _)))
    go_wp2
    go_ret
    exact ⟨HD.out, rfl⟩
  by_cases c2 : (122 : Int) < (x0 : Int)
  · have HD := Lib.hid (show Says (.returned (.bool false)) (NameOk s) from .no (fun h => by
      have h2 := h.2.2 0 h1
      rw [HX0.out] at h2
      rcases h2 with h2 | h2
      · have := h2.2; omega
      · exact absurd h2.2 (Nat.lt_irrefl _)))
    go_wp2
    go_ret
    exact ⟨HD.out, rfl⟩
  have HL0 := Lib.hid (show Letter x0 from ⟨by omega, by omega⟩)
  go_wp2
  clear c1 c2 hx0
  go_loop [3] (fun i => ∃ k : Nat, k ≤ s.size ∧ i = .int .i64 k ∧ Hid (∀ j (h : j < s.size), j < k → Letter s[j].toNat ∨ Figure s[j].toNat)) (fun i => s.size - (intOf i).toNat)
  case atStart => exact ⟨0, Nat.zero_le _, rfl, Lib.hid fun j _ h => absurd h (Nat.not_lt_zero _)⟩
  case round =>
    obtain ⟨k, hk, rfl, HA⟩ := hrel
    by_cases hlt : k < s.size
    · have hkI : (k : Int) < s.size := by omega
      obtain ⟨x, hx⟩ : ∃ x : Nat, s[k].toNat = x := ⟨_, rfl⟩
      have HX := Lib.hid hx
      have HNO := Lib.hid (fun hb : ¬ (Letter x ∨ Figure x) => show Says (.returned (.bool false)) (NameOk s) from .no fun h => hb (by
        have h2 := h.2.2 k hlt
        rw [HX.out] at h2
        rcases h2 with h2 | h2
        · exact .inl h2
        · exact .inr h2.1))
      have HYES := Lib.hid (fun hb : Letter x ∨ Figure x => show ∀ j (h : j < s.size), j < k + 1 → Letter s[j].toNat ∨ Figure s[j].toNat from fun j h hj => by
        by_cases e : j = k
        · subst e; rw [HX.out]; exact hb
        · exact HA.out j h (by omega))
      by_cases a1 : (97 : Int) ≤ x
      · by_cases a2 : (x : Int) ≤ 122
        · have HY := Lib.hid (HYES.out (.inl ⟨by omega, by omega⟩))
          go_wp2
          exact ⟨⟨k + 1, by omega, by go_num, HY⟩, by simp [intOf]; omega⟩
        · have b1 : (48 : Int) ≤ x := by omega
          have b2 : ¬ (x : Int) ≤ 57 := by omega
          have HN := Lib.hid (HNO.out (fun h => by rcases h with h | h <;> (have := h.2; omega)))
          go_wp2
          go_ret
          exact ⟨HN.out, rfl⟩
      · by_cases b1 : (48 : Int) ≤ x
        · by_cases b2 : (x : Int) ≤ 57
          · have HY := Lib.hid (HYES.out (.inr ⟨by omega, by omega⟩))
            go_wp2
            exact ⟨⟨k + 1, by omega, by go_num, HY⟩, by simp [intOf]; omega⟩
          · have HN := Lib.hid (HNO.out (fun h => by rcases h with h | h <;> (have h1 := h.1; have h2 := h.2; omega)))
            go_wp2
            go_ret
            exact ⟨HN.out, rfl⟩
        · have HN := Lib.hid (HNO.out (fun h => by rcases h with h | h <;> (have h1 := h.1; omega)))
          go_wp2
          go_ret
          exact ⟨HN.out, rfl⟩
    · obtain rfl : k = s.size := by omega
      have HD := Lib.hid (show Says (.returned (.bool true)) (NameOk s) from .yes ⟨by omega, h7, fun j h => by
        rcases HA.out j h h with h2 | h2
        · exact .inl h2
        · by_cases e : j = 0
          · subst e
            refine .inl ?_
            rw [HX0.out]
            exact HL0.out
          · exact .inr ⟨h2, by omega⟩⟩)
      go_wp2
      go_ret
      exact ⟨HD.out, rfl⟩

set_option maxRecDepth 100000 in
set_option maxHeartbeats 2000000 in
theorem inameOk_any (w : World) (s : ByteArray) (hs : s.size ≤ 1048576) : Calls Tryd.prog 58 #[.string s] w fun e w' => Says e (NameOk s) ∧ w' = w := by
  by_cases h1 : (s.size : Int) < 1
  · have HD := Lib.hid (show Says (.returned (.bool false)) (NameOk s) from .no (fun h => by have := h.1; omega))
    go_enter Tryd.func58, Tryd.ntmps58
    go_wp2
    go_ret
    exact ⟨HD.out, rfl⟩
  by_cases h7 : (7 : Int) < s.size
  · have HD := Lib.hid (show Says (.returned (.bool false)) (NameOk s) from .no (fun h => by have := h.2.1; omega))
    go_enter Tryd.func58, Tryd.ntmps58
    go_wp2
    go_ret
    exact ⟨HD.out, rfl⟩
  go_enter Tryd.func58, Tryd.ntmps58
  go_wp2
  go_loop [17] (fun i => ∃ k : Nat, k ≤ s.size ∧ i = .int .i64 k ∧ Hid (∀ j (h : j < s.size), j < k → Letter s[j].toNat ∨ (Figure s[j].toNat ∧ 0 < j))) (fun i => s.size - (intOf i).toNat)
  case atStart => exact ⟨0, Nat.zero_le _, rfl, Lib.hid fun j _ h => absurd h (Nat.not_lt_zero _)⟩
  case round =>
    obtain ⟨k, hk, rfl, HA⟩ := hrel
    by_cases hlt : k < s.size
    · have hkI : (k : Int) < s.size := by omega
      obtain ⟨x, hx⟩ : ∃ x : Nat, s[k].toNat = x := ⟨_, rfl⟩
      have HX := Lib.hid hx
      have HNO := Lib.hid (fun hb : ¬ (Letter x ∨ (Figure x ∧ 0 < k)) => show Says (.returned (.bool false)) (NameOk s) from .no fun h => hb (by have := h.2.2 k hlt; rwa [HX.out] at this))
      have HGO := Lib.hid (fun hb : Letter x ∨ (Figure x ∧ 0 < k) => fun j (h : j < s.size) (hj : j < k + 1) => show Letter s[j].toNat ∨ (Figure s[j].toNat ∧ 0 < j) from by
        by_cases e : j = k
        · subst e; rw [HX.out]; exact hb
        · exact HA.out j h (by omega))
      by_cases c1 : (97 : Int) ≤ (x : Int)
      · by_cases c2 : (x : Int) ≤ 122
        · by_cases c3 : (48 : Int) ≤ (x : Int)
          · by_cases c4 : (x : Int) ≤ 57
            · omega
            go_wp2
            exact ⟨⟨k + 1, by omega, by go_num, Lib.hid (HGO.out (.inl ⟨by omega, by omega⟩))⟩, by simp [intOf]; omega⟩
          omega
        · by_cases c4 : (x : Int) ≤ 57
          · omega
          by_cases k0 : (k : Int) = 0
          · have k0b : ((k : Int) == 0) = true := by simp [k0]
            have K0 := Lib.hid k0
            clear k0
            go_wp2
            go_ret
            exact ⟨HNO.out (fun h => h.elim (fun h => by have := K0.out; have := h.2; omega) (fun h => by have := K0.out; have := h.2; omega)), rfl⟩
          have k0b : ((k : Int) == 0) = false := by rw [beq_eq_false_iff_ne]; exact k0
          have K0 := Lib.hid k0
          clear k0
          go_wp2
          go_ret
          exact ⟨HNO.out (fun h => h.elim (fun h => by have := K0.out; have := h.2; omega) (fun h => by have := K0.out; have := h.1.2; omega)), rfl⟩
      · by_cases c3 : (48 : Int) ≤ (x : Int)
        · by_cases c4 : (x : Int) ≤ 57
          · by_cases k0 : (k : Int) = 0
            · have k0b : ((k : Int) == 0) = true := by simp [k0]
              have K0 := Lib.hid k0
              clear k0
              go_wp2
              go_ret
              exact ⟨HNO.out (fun h => h.elim (fun h => by have := K0.out; have := h.1; omega) (fun h => by have := K0.out; have := h.2; omega)), rfl⟩
            have k0b : ((k : Int) == 0) = false := by rw [beq_eq_false_iff_ne]; exact k0
            have K0 := Lib.hid k0
            clear k0
            go_wp2
            exact ⟨⟨k + 1, by omega, by go_num, Lib.hid (HGO.out (.inr ⟨⟨by omega, by omega⟩, by have := K0.out; omega⟩))⟩, by simp [intOf]; omega⟩
          · by_cases k0 : (k : Int) = 0
            · have k0b : ((k : Int) == 0) = true := by simp [k0]
              have K0 := Lib.hid k0
              clear k0
              go_wp2
              go_ret
              exact ⟨HNO.out (fun h => h.elim (fun h => by have := K0.out; have := h.1; omega) (fun h => by have := K0.out; have := h.2; omega)), rfl⟩
            have k0b : ((k : Int) == 0) = false := by rw [beq_eq_false_iff_ne]; exact k0
            have K0 := Lib.hid k0
            clear k0
            go_wp2
            go_ret
            exact ⟨HNO.out (fun h => h.elim (fun h => by have := K0.out; have := h.1; omega) (fun h => by have := K0.out; have := h.1.2; omega)), rfl⟩
        · by_cases k0 : (k : Int) = 0
          · have k0b : ((k : Int) == 0) = true := by simp [k0]
            have K0 := Lib.hid k0
            clear k0
            go_wp2
            go_ret
            exact ⟨HNO.out (fun h => h.elim (fun h => by have := K0.out; have := h.1; omega) (fun h => by have := K0.out; have := h.2; omega)), rfl⟩
          have k0b : ((k : Int) == 0) = false := by rw [beq_eq_false_iff_ne]; exact k0
          have K0 := Lib.hid k0
          clear k0
          go_wp2
          go_ret
          exact ⟨HNO.out (fun h => h.elim (fun h => by have := K0.out; have := h.1; omega) (fun h => by have := K0.out; have := h.1.1; omega)), rfl⟩
    · obtain rfl : k = s.size := by omega
      have HD := Lib.hid (show Says (.returned (.bool true)) (NameOk s) from .yes ⟨by omega, by omega, fun j h => HA.out j h h⟩)
      go_wp2
      go_ret
      exact ⟨HD.out, rfl⟩
theorem Says.is_yes {e : Ending} {p : Prop} (h : Says e p) (hp : p) : e = .returned (.bool true) := by
  obtain ⟨b, rfl, hb⟩ := h
  rw [hb.2 hp]

theorem Says.is_no {e : Ending} {p : Prop} (h : Says e p) (hp : ¬ p) : e = .returned (.bool false) := by
  obtain ⟨b, rfl, hb⟩ := h
  cases b
  · rfl
  · exact absurd (hb.1 rfl) hp

end Go.Proofs.YtdelijobaebfnaaDoor
