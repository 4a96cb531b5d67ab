/- The program's texts, numbers and names. -/
import Derived.Test.YtgmigloafcejdaaGreatDoorHX
namespace Go.Proofs.YtgmigloafcejdaaGreatDoor
open Go.RowKit

set_option maxHeartbeats 1000000 in
theorem inumOk_any (w : World) (n : Int) : Calls Tryz.prog 97 #[.int .i64 n] w fun e w' => Says e (InR (-999999) n 999999) ∧ w' = w := by
  by_cases h1 : -999999 ≤ n
  · by_cases h2 : n ≤ 999999
    · have HD := Lib.hid (show Says (.returned (.bool true)) (InR (-999999) n 999999) from .yes ⟨h1, h2⟩)
      go_enter Tryz.func97, Tryz.ntmps97
      go_wp2
      go_ret
      exact ⟨HD.out, rfl⟩
    · have HD := Lib.hid (show Says (.returned (.bool false)) (InR (-999999) n 999999) from .no (fun h => h2 h.2))
      go_enter Tryz.func97, Tryz.ntmps97
      go_wp2
      go_ret
      exact ⟨HD.out, rfl⟩
  · have HD := Lib.hid (show Says (.returned (.bool false)) (InR (-999999) n 999999) from .no (fun h => h1 h.1))
    go_enter Tryz.func97, Tryz.ntmps97
    go_wp2
    go_ret
    exact ⟨HD.out, rfl⟩

set_option maxRecDepth 100000 in
set_option maxHeartbeats 2000000 in
theorem inameOk_any (w : World) (s : ByteArray) (hs : s.size ≤ 1048576) : Calls Tryz.prog 137 #[.string s] w fun e w' => Says e (NameOk s) ∧ w' = w := by
  by_cases h1 : (s.size : Int) < 1
  · have HD := Lib.hid (show Says (.returned (.bool false)) (NameOk s) from .no (fun h => by have := h.1; omega))
    go_enter Tryz.func137, Tryz.ntmps137
    go_wp2
    go_ret
    exact ⟨HD.out, rfl⟩
  by_cases h7 : (7 : Int) < s.size
  · have HD := Lib.hid (show Says (.returned (.bool false)) (NameOk s) from .no (fun h => by have := h.2.1; omega))
    go_enter Tryz.func137, Tryz.ntmps137
    go_wp2
    go_ret
    exact ⟨HD.out, rfl⟩
  go_enter Tryz.func137, Tryz.ntmps137
  go_wp2
  go_loop [17] (fun i => ∃ k : Nat, k ≤ s.size ∧ i = .int .i64 k ∧ Hid (∀ j (h : j < s.size), j < k → Letter s[j].toNat ∨ (Figure s[j].toNat ∧ 0 < j))) (fun i => s.size - (intOf i).toNat)
  case atStart => exact ⟨0, Nat.zero_le _, rfl, Lib.hid fun j _ h => absurd h (Nat.not_lt_zero _)⟩
  case round =>
    obtain ⟨k, hk, rfl, HA⟩ := hrel
    by_cases hlt : k < s.size
    · have hkI : (k : Int) < s.size := by omega
      obtain ⟨x, hx⟩ : ∃ x : Nat, s[k].toNat = x := ⟨_, rfl⟩
      have HX := Lib.hid hx
      have HNO := Lib.hid (fun hb : ¬ (Letter x ∨ (Figure x ∧ 0 < k)) => show Says (.returned (.bool false)) (NameOk s) from .no fun h => hb (by have := h.2.2 k hlt; rwa [HX.out] at this))
      have HGO := Lib.hid (fun hb : Letter x ∨ (Figure x ∧ 0 < k) => fun j (h : j < s.size) (hj : j < k + 1) => show Letter s[j].toNat ∨ (Figure s[j].toNat ∧ 0 < j) from by
        by_cases e : j = k
        · subst e; rw [HX.out]; exact hb
        · exact HA.out j h (by omega))
      by_cases c1 : (97 : Int) ≤ (x : Int)
      · by_cases c2 : (x : Int) ≤ 122
        · by_cases c3 : (48 : Int) ≤ (x : Int)
          · by_cases c4 : (x : Int) ≤ 57
            · omega
            go_wp2
            exact ⟨⟨k + 1, by omega, by go_num, Lib.hid (HGO.out (.inl ⟨by omega, by omega⟩))⟩, by simp [intOf]; omega⟩
          omega
        · by_cases c4 : (x : Int) ≤ 57
          · omega
          by_cases k0 : (k : Int) = 0
          · have k0b : ((k : Int) == 0) = true := by simp [k0]
            have K0 := Lib.hid k0
            clear k0
            go_wp2
            go_ret
            exact ⟨HNO.out (fun h => h.elim (fun h => by have := K0.out; have := h.2; omega) (fun h => by have := K0.out; have := h.2; omega)), rfl⟩
          have k0b : ((k : Int) == 0) = false := by rw [beq_eq_false_iff_ne]; exact k0
          have K0 := Lib.hid k0
          clear k0
          go_wp2
          go_ret
          exact ⟨HNO.out (fun h => h.elim (fun h => by have := K0.out; have := h.2; omega) (fun h => by have := K0.out; have := h.1.2; omega)), rfl⟩
      · by_cases c3 : (48 : Int) ≤ (x : Int)
        · by_cases c4 : (x : Int) ≤ 57
          · by_cases k0 : (k : Int) = 0
            · have k0b : ((k : Int) == 0) = true := by simp [k0]
              have K0 := Lib.hid k0
              clear k0
              go_wp2
              go_ret
              exact ⟨HNO.out (fun h => h.elim (fun h => by have := K0.out; have := h.1; omega) (fun h => by have := K0.out; have := h.2; omega)), rfl⟩
            have k0b : ((k : Int) == 0) = false := by rw [beq_eq_false_iff_ne]; exact k0
            have K0 := Lib.hid k0
            clear k0
            go_wp2
            exact ⟨⟨k + 1, by omega, by go_num, Lib.hid (HGO.out (.inr ⟨⟨by omega, by omega⟩, by have := K0.out; omega⟩))⟩, by simp [intOf]; omega⟩
          · by_cases k0 : (k : Int) = 0
            · have k0b : ((k : Int) == 0) = true := by simp [k0]
              have K0 := Lib.hid k0
              clear k0
              go_wp2
              go_ret
              exact ⟨HNO.out (fun h => h.elim (fun h => by have := K0.out; have := h.1; omega) (fun h => by have := K0.out; have := h.2; omega)), rfl⟩
            have k0b : ((k : Int) == 0) = false := by rw [beq_eq_false_iff_ne]; exact k0
            have K0 := Lib.hid k0
            clear k0
            go_wp2
            go_ret
            exact ⟨HNO.out (fun h => h.elim (fun h => by have := K0.out; have := h.1; omega) (fun h => by have := K0.out; have := h.1.2; omega)), rfl⟩
        · by_cases k0 : (k : Int) = 0
          · have k0b : ((k : Int) == 0) = true := by simp [k0]
            have K0 := Lib.hid k0
            clear k0
            go_wp2
            go_ret
            exact ⟨HNO.out (fun h => h.elim (fun h => by have := K0.out; have := h.1; omega) (fun h => by have := K0.out; have := h.2; omega)), rfl⟩
          have k0b : ((k : Int) == 0) = false := by rw [beq_eq_false_iff_ne]; exact k0
          have K0 := Lib.hid k0
          clear k0
          go_wp2
          go_ret
          exact ⟨HNO.out (fun h => h.elim (fun h => by have := K0.out; have := h.1; omega) (fun h => by have := K0.out; have := h.1.1; omega)), rfl⟩
    · obtain rfl : k = s.size := by omega
      have HD := Lib.hid (show Says (.returned (.bool true)) (NameOk s) from .yes ⟨by omega, by omega, fun j h => HA.out j h h⟩)
      go_wp2
      go_ret
      exact ⟨HD.out, rfl⟩
end Go.Proofs.YtgmigloafcejdaaGreatDoor

namespace Go.Proofs.YtgmigloafcejdaaGreatDoor
open Go.RowKit

theorem namesOk_zero (ns : List ByteArray) (x : ByteArray) (h0 : 0 < ns.length) (hx : ns[0] = x) (hN : NameOk x) : NamesOk (ns.take (0 + 1)) := fun i h => by
  have hi : i = 0 := by simp at h; omega
  subst hi
  refine ⟨?_, fun h => absurd h (Nat.lt_irrefl _)⟩
  have : (ns.take (0 + 1))[0] = x := by rw [← hx]; simp
  rw [this]
  exact hN
theorem namesOk_succ (ns : List ByteArray) (x y : ByteArray) (k j : Nat) (hlt : k < ns.length) (hj : k = j + 1) (hx : ns[k] = x) (hy : y = ns.getD j ByteArray.empty) (hA : NamesOk (ns.take k)) (hN : NameOk x) (hc : Op.bytesLess y.toList x.toList = true) : NamesOk (ns.take (k + 1)) := fun i h => by
  have hi : i < k + 1 := by simp at h; omega
  have hin : i < ns.length := by omega
  have hti : (ns.take (k + 1))[i] = ns[i] := by simp
  have htd : (ns.take (k + 1)).getD (i - 1) ByteArray.empty = ns.getD (i - 1) ByteArray.empty := by
    simp [show i - 1 < k + 1 from by omega]
  rw [hti, htd]
  by_cases e : i = k
  · subst e
    rw [hx]
    exact ⟨hN, fun _ => by rw [show i - 1 = j from by omega, ← hy]; exact hc⟩
  · have h2 := hA i (by simp; omega)
    have hti2 : (ns.take k)[i]'(by simp; omega) = ns[i] := by simp
    have htd2 : (ns.take k).getD (i - 1) ByteArray.empty = ns.getD (i - 1) ByteArray.empty := by
      simp [show i - 1 < k from by omega]
    rw [hti2, htd2] at h2
    exact h2

set_option maxRecDepth 100000 in
set_option maxHeartbeats 2000000 in
theorem iascN_any (w : World) (base : Nat) (ns : List ByteArray) (an : Option Addr) (cn : Nat) (hl : Lies w base an ns) (hnl : ns.length ≤ 1048576) (hsl : ∀ s ∈ ns, s.size ≤ 1048576) :
    Calls Tryz.prog 136 #[.slice an ns.length cn, .func (.func 137) #[] #[]] w fun e w' => Says e (NamesOk ns) ∧ w' = w := by
  have HL := Lib.hid hl
  have HSL := Lib.hid hsl
  clear hl hsl
  obtain ⟨p, hp⟩ : ∃ p : Prop, p = NamesOk ns := ⟨_, rfl⟩
  rw [← hp]
  have HPP := Lib.hid hp
  clear hp
  go_enter Tryz.func136, Tryz.ntmps136
  go_wp2
  go_loop [9] (fun i => ∃ k : Nat, k ≤ ns.length ∧ i = .int .i64 k ∧ Hid (NamesOk (ns.take k))) (fun i => ns.length - (intOf i).toNat)
  case atStart => exact ⟨0, Nat.zero_le _, rfl, Lib.hid (fun i h => by simp at h)⟩
  case round =>
    obtain ⟨k, hk, rfl, HA⟩ := hrel
    by_cases hlt : k < ns.length
    · rcases HL.out with h0 | ⟨ab, o, rfl, -, hc⟩
      · omega
      obtain ⟨x, hx⟩ : ∃ x, x = ns.getD k ByteArray.empty := ⟨_, rfl⟩
      have hge : ns[k] = x := by rw [hx]; simp [hlt]
      have e0 := hc k hlt
      rw [← hx] at e0
      have hxs := HSL.out x (by rw [← hge]; exact List.getElem_mem hlt)
      have HNM := Lib.hid (inameOk_any w x hxs)
      have hkI : (k : Int) < ns.length := by omega
      clear hx
      have HX := Lib.hid hge
      by_cases hN : NameOk x
      · have HN := Lib.hid hN
        have HCL := Lib.hid (HNM.out.mono (R' := fun e w' => e = .returned (.bool true) ∧ w' = w) (fun e w' h => ⟨h.1.is_yes hN, h.2⟩))
        clear hN HNM
        by_cases hk0 : k = 0
        · have HAN := Lib.hid (show NamesOk (ns.take (k + 1)) from by
            subst hk0
            exact namesOk_zero ns x hlt HX.out HN.out)
          have hkn : ¬ (0 : Int) < k := by omega
          clear hk0 hge hc
          go_wp2_with fail
          refine HCL.out.mono ?_
          rintro e w1 ⟨rfl, hw⟩
          have hw := hw.symm
          subst hw
          go_wp2
          exact ⟨⟨k + 1, by omega, by go_num, HAN⟩, by simp [intOf]; omega⟩
        · obtain ⟨j, hj⟩ : ∃ j, k = j + 1 := ⟨k - 1, by omega⟩
          have HJ := Lib.hid hj
          obtain ⟨y, hy⟩ : ∃ y, y = ns.getD j ByteArray.empty := ⟨_, rfl⟩
          have e1 := hc j (by omega)
          rw [← hy] at e1
          have HY := Lib.hid hy
          have hj1 : (k : Int) - 1 = (j : Int) := by omega
          have hjI : (j : Int) < ns.length := by omega
          have hpos : (0 : Int) < k := by omega
          clear hj hk0 hy hge hc
          cases hcmp : Op.bytesLess y.toList x.toList
          · have HCM := Lib.hid hcmp
            have HD := Lib.hid (show Says (.returned (.bool false)) p from by rw [HPP.out]; exact .no (fun h => by have h2 := (h k hlt).2 (by omega); rw [HX.out, show k - 1 = j from by have := HJ.out; omega, ← HY.out, HCM.out] at h2; cases h2))
            go_wp2_with fail
            refine HCL.out.mono ?_
            rintro e w1 ⟨rfl, hw⟩
            have hw := hw.symm
            subst hw
            go_wp2
            go_ret
            exact ⟨HD.out, rfl⟩
          · have HCM := Lib.hid hcmp
            have HAN := Lib.hid (namesOk_succ ns x y k j hlt HJ.out HX.out HY.out HA.out HN.out HCM.out)
            go_wp2_with fail
            refine HCL.out.mono ?_
            rintro e w1 ⟨rfl, hw⟩
            have hw := hw.symm
            subst hw
            go_wp2
            exact ⟨⟨k + 1, by omega, by go_num, HAN⟩, by simp [intOf]; omega⟩
      · have HD := Lib.hid (show Says (.returned (.bool false)) p from by rw [HPP.out]; exact .no (fun h => hN (by have h2 := (h k hlt).1; rw [HX.out] at h2; exact h2)))
        have HCL := Lib.hid (HNM.out.mono (R' := fun e w' => e = .returned (.bool false) ∧ w' = w) (fun e w' h => ⟨h.1.is_no hN, h.2⟩))
        clear hN HNM hc hge
        go_wp2_with fail
        refine HCL.out.mono ?_
        rintro e w1 ⟨rfl, hw⟩
        have hw := hw.symm
        subst hw
        go_wp2
        go_ret
        exact ⟨HD.out, rfl⟩
    · obtain rfl : k = ns.length := by omega
      have HD := Lib.hid (show Says (.returned (.bool true)) p from by rw [HPP.out]; have h := HA.out; rw [List.take_length] at h; exact .yes h)
      go_wp2
      go_ret
      exact ⟨HD.out, rfl⟩

set_option maxRecDepth 100000 in
set_option maxHeartbeats 1000000 in
theorem inamesOk_any (w : World) (base : Nat) (ns : List ByteArray) (an : Option Addr) (cn : Nat) (hl : Lies w base an ns) (hnl : ns.length ≤ 1048576) (hsl : ∀ s ∈ ns, s.size ≤ 1048576) :
    Calls Tryz.prog 118 #[.slice an ns.length cn] w fun e w' => Says e (NamesOk ns) ∧ w' = w := by
  have HC := Lib.hid (iascN_any w base ns an cn hl hnl hsl)
  clear hl hsl
  go_enter Tryz.func118, Tryz.ntmps118
  go_wp2_with fail
  refine HC.out.mono ?_
  rintro e w1 ⟨⟨b, rfl, hb⟩, hw⟩
  have HB := Lib.hid hb
  have hw := hw.symm
  subst hw
  clear hb
  go_wp2
  go_ret
  exact ⟨⟨b, rfl, HB.out⟩, rfl⟩
end Go.Proofs.YtgmigloafcejdaaGreatDoor
