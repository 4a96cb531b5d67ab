/- Names and roles, ascending. -/
import Derived.Test.YtpmjinlbfddmmaaM4
namespace Go.Proofs.Ytpmjinlbfddmmaa
open Go.RowKit

theorem Says.is_yes {e : Ending} {p : Prop} (h : Says e p) (hp : p) : e = .returned (.bool true) := by
  obtain ⟨b, rfl, hb⟩ := h
  rw [hb.2 hp]
theorem Says.is_no {e : Ending} {p : Prop} (h : Says e p) (hp : ¬ p) : e = .returned (.bool false) := by
  obtain ⟨b, rfl, hb⟩ := h
  cases b
  · rfl
  · exact absurd (hb.1 rfl) hp

/-- each is such, and they ascend -/
def AscBy (ok : ByteArray → Prop) (ns : List ByteArray) : Prop := ∀ i (h : i < ns.length), ok ns[i] ∧ (0 < i → Op.bytesLess (ns.getD (i - 1) ByteArray.empty).toList ns[i].toList = true)
theorem asc_zero (ok : ByteArray → Prop) (ns : List ByteArray) (x : ByteArray) (h0 : 0 < ns.length) (hx : ns[0] = x) (hN : ok x) : AscBy ok (ns.take (0 + 1)) := fun i h => by
  have hi : i = 0 := by simp at h; omega
  subst hi
  refine ⟨?_, fun h => absurd h (Nat.lt_irrefl _)⟩
  have : (ns.take (0 + 1))[0] = x := by rw [← hx]; simp
  rw [this]
  exact hN
theorem asc_succ (ok : ByteArray → Prop) (ns : List ByteArray) (x y : ByteArray) (k j : Nat) (hlt : k < ns.length) (hj : k = j + 1) (hx : ns[k] = x) (hy : y = ns.getD j ByteArray.empty) (hA : AscBy ok (ns.take k)) (hN : ok x) (hc : Op.bytesLess y.toList x.toList = true) : AscBy ok (ns.take (k + 1)) := fun i h => by
  have hi : i < k + 1 := by simp at h; omega
  have hin : i < ns.length := by omega
  have hti : (ns.take (k + 1))[i] = ns[i] := by simp
  have htd : (ns.take (k + 1)).getD (i - 1) ByteArray.empty = ns.getD (i - 1) ByteArray.empty := by
    simp [show i - 1 < k + 1 from by omega]
  rw [hti, htd]
  by_cases e : i = k
  · subst e
    rw [hx]
    exact ⟨hN, fun _ => by rw [show i - 1 = j from by omega, ← hy]; exact hc⟩
  · have h2 := hA i (by simp; omega)
    have hti2 : (ns.take k)[i]'(by simp; omega) = ns[i] := by simp
    have htd2 : (ns.take k).getD (i - 1) ByteArray.empty = ns.getD (i - 1) ByteArray.empty := by
      simp [show i - 1 < k from by omega]
    rw [hti2, htd2] at h2
    exact h2

/-- one of them is it -/
def Has (ss : List ByteArray) (s : ByteArray) : Prop := ∃ i, ∃ h : i < ss.length, ss[i].toList = s.toList
def roles4 : List ByteArray := [⟨#[97, 112, 112, 114, 111, 118, 101]⟩, ⟨#[111, 119, 110, 101, 114]⟩, ⟨#[112, 108, 97, 110]⟩, ⟨#[119, 114, 105, 116, 101]⟩]
def RoleOk (s : ByteArray) : Prop := Has roles4 s
theorem role_iff (s : ByteArray) : RoleOk s ↔ s.toList = [97, 112, 112, 114, 111, 118, 101] ∨ s.toList = [111, 119, 110, 101, 114] ∨ s.toList = [112, 108, 97, 110] ∨ s.toList = [119, 114, 105, 116, 101] := by
  constructor
  · rintro ⟨i, h, e⟩
    have h4 : i = 0 ∨ i = 1 ∨ i = 2 ∨ i = 3 := by
      have : i < 4 := h
      omega
    rcases h4 with rfl | rfl | rfl | rfl
    · exact .inl (by rw [← e, ByteArray.toList_eq]; rfl)
    · exact .inr (.inl (by rw [← e, ByteArray.toList_eq]; rfl))
    · exact .inr (.inr (.inl (by rw [← e, ByteArray.toList_eq]; rfl)))
    · exact .inr (.inr (.inr (by rw [← e, ByteArray.toList_eq]; rfl)))
  · rintro (e | e | e | e)
    · exact ⟨0, by decide, by rw [e, ByteArray.toList_eq]; rfl⟩
    · exact ⟨1, by decide, by rw [e, ByteArray.toList_eq]; rfl⟩
    · exact ⟨2, by decide, by rw [e, ByteArray.toList_eq]; rfl⟩
    · exact ⟨3, by decide, by rw [e, ByteArray.toList_eq]; rfl⟩

set_option maxHeartbeats 1000000 in
theorem irole_any (w : World) (s : ByteArray) (_hs : s.size ≤ 1048576) : Calls Try.prog 73 #[.string s] w fun e w' => Says e (RoleOk s) ∧ w' = w := by
  have HI := Lib.hid (role_iff s)
  cases h1 : (s.toList == [97, 112, 112, 114, 111, 118, 101])
  case true =>
    have HD := Lib.hid (show Says (.returned (.bool true)) (RoleOk s) from .yes (HI.out.2 (.inl (by simpa using h1))))
    go_enter Try.func73, Try.ntmps73
    go_wp2
    go_ret
    exact ⟨HD.out, rfl⟩
  cases h2 : (s.toList == [111, 119, 110, 101, 114])
  case true =>
    have HD := Lib.hid (show Says (.returned (.bool true)) (RoleOk s) from .yes (HI.out.2 (.inr (.inl (by simpa using h2)))))
    go_enter Try.func73, Try.ntmps73
    go_wp2
    go_ret
    exact ⟨HD.out, rfl⟩
  cases h3 : (s.toList == [112, 108, 97, 110])
  case true =>
    have HD := Lib.hid (show Says (.returned (.bool true)) (RoleOk s) from .yes (HI.out.2 (.inr (.inr (.inl (by simpa using h3))))))
    go_enter Try.func73, Try.ntmps73
    go_wp2
    go_ret
    exact ⟨HD.out, rfl⟩
  cases h4 : (s.toList == [119, 114, 105, 116, 101])
  case true =>
    have HD := Lib.hid (show Says (.returned (.bool true)) (RoleOk s) from .yes (HI.out.2 (.inr (.inr (.inr (by simpa using h4))))))
    go_enter Try.func73, Try.ntmps73
    go_wp2
    go_ret
    exact ⟨HD.out, rfl⟩
  have HD := Lib.hid (show Says (.returned (.bool false)) (RoleOk s) from .no (fun h => by
    rcases HI.out.1 h with e | e | e | e
    · rw [e] at h1; simp at h1
    · rw [e] at h2; simp at h2
    · rw [e] at h3; simp at h3
    · rw [e] at h4; simp at h4))
  go_enter Try.func73, Try.ntmps73
  go_wp2
  go_ret
  exact ⟨HD.out, rfl⟩

set_option maxRecDepth 100000 in
set_option maxHeartbeats 1000000 in
theorem has_any (w : World) (base : Nat) (ss : List ByteArray) (ao : Option Addr) (cap : Nat) (hl : Lies w base ao ss) (hn : ss.length ≤ 1048576) (s : ByteArray) : Calls Try.prog 47 #[.slice ao ss.length cap, .string s] w fun e w' => Says e (Has ss s) ∧ w' = w := by
  have HL := Lib.hid hl
  clear hl
  go_enter Try.func47, Try.ntmps47
  go_wp2
  go_loop [5] (fun i => ∃ k : Nat, k ≤ ss.length ∧ i = .int .i64 k ∧ Hid (∀ j (h : j < ss.length), j < k → ss[j].toList ≠ s.toList)) (fun i => ss.length - (intOf i).toNat)
  case atStart => exact ⟨0, Nat.zero_le _, rfl, Lib.hid fun j _ h => absurd h (Nat.not_lt_zero _)⟩
  case round =>
    obtain ⟨k, hk, rfl, HA⟩ := hrel
    by_cases hlt : k < ss.length
    · rcases HL.out with h0 | ⟨ab, o, rfl, -, hc⟩
      · omega
      obtain ⟨x, hx⟩ : ∃ x, x = ss.getD k ByteArray.empty := ⟨_, rfl⟩
      have hge : ss[k] = x := by rw [hx]; simp [hlt]
      have e0 := hc k hlt
      rw [← hx] at e0
      have hkI : (k : Int) < ss.length := by omega
      clear hx hc
      have HX := Lib.hid hge
      clear hge
      cases hE : (x.toList == s.toList)
      · have HN := Lib.hid (show x.toList ≠ s.toList from by simpa using hE)
        go_wp2
        exact ⟨⟨k + 1, by omega, by go_num, Lib.hid fun j h hj => by
          by_cases e : j = k
          · subst e; rw [HX.out]; exact HN.out
          · exact HA.out j h (by omega)⟩, by simp [intOf]; omega⟩
      · have HD := Lib.hid (show Says (.returned (.bool true)) (Has ss s) from .yes ⟨k, hlt, by rw [HX.out]; simpa using hE⟩)
        go_wp2
        go_ret
        exact ⟨HD.out, rfl⟩
    · obtain rfl : k = ss.length := by omega
      have HD := Lib.hid (show Says (.returned (.bool false)) (Has ss s) from .no (fun ⟨i, h, e⟩ => HA.out i h h e))
      go_wp2
      go_ret
      exact ⟨HD.out, rfl⟩

set_option maxRecDepth 100000 in
set_option maxHeartbeats 2000000 in
theorem iascN_any (w : World) (base : Nat) (ns : List ByteArray) (an : Option Addr) (cn : Nat) (hl : Lies w base an ns) (hnl : ns.length ≤ 1048576) (hsl : ∀ s ∈ ns, s.size ≤ 1048576) :
    Calls Try.prog 72 #[.slice an ns.length cn, .func (.func 74) #[] #[]] w fun e w' => Says e (AscBy NameOk ns) ∧ w' = w := by
  have HL := Lib.hid hl
  have HSL := Lib.hid hsl
  clear hl hsl
  obtain ⟨p, hp⟩ : ∃ p : Prop, p = AscBy NameOk ns := ⟨_, rfl⟩
  rw [← hp]
  have HPP := Lib.hid hp
  clear hp
  go_enter Try.func72, Try.ntmps72
  go_wp2
  go_loop [9] (fun i => ∃ k : Nat, k ≤ ns.length ∧ i = .int .i64 k ∧ Hid (AscBy NameOk (ns.take k))) (fun i => ns.length - (intOf i).toNat)
  case atStart => exact ⟨0, Nat.zero_le _, rfl, Lib.hid (fun i h => by simp at h)⟩
  case round =>
    obtain ⟨k, hk, rfl, HA⟩ := hrel
    by_cases hlt : k < ns.length
    · rcases HL.out with h0 | ⟨ab, o, rfl, -, hc⟩
      · omega
      obtain ⟨x, hx⟩ : ∃ x, x = ns.getD k ByteArray.empty := ⟨_, rfl⟩
      have hge : ns[k] = x := by rw [hx]; simp [hlt]
      have e0 := hc k hlt
      rw [← hx] at e0
      have hxs := HSL.out x (by rw [← hge]; exact List.getElem_mem hlt)
      have HNM := Lib.hid (inameOk_any w x hxs)
      have hkI : (k : Int) < ns.length := by omega
      clear hx
      have HX := Lib.hid hge
      by_cases hN : NameOk x
      · have HN := Lib.hid hN
        have HCL := Lib.hid (HNM.out.mono (R' := fun e w' => e = .returned (.bool true) ∧ w' = w) (fun e w' h => ⟨h.1.is_yes hN, h.2⟩))
        clear hN HNM
        by_cases hk0 : k = 0
        · have HAN := Lib.hid (show AscBy NameOk (ns.take (k + 1)) from by
            subst hk0
            exact asc_zero NameOk ns x hlt HX.out HN.out)
          have hkn : ¬ (0 : Int) < k := by omega
          clear hk0 hge hc
          go_wp2_with fail
          refine HCL.out.mono ?_
          rintro e w1 ⟨rfl, hw⟩
          have hw := hw.symm
          subst hw
          go_wp2
          exact ⟨⟨k + 1, by omega, by go_num, HAN⟩, by simp [intOf]; omega⟩
        · obtain ⟨j, hj⟩ : ∃ j, k = j + 1 := ⟨k - 1, by omega⟩
          have HJ := Lib.hid hj
          obtain ⟨y, hy⟩ : ∃ y, y = ns.getD j ByteArray.empty := ⟨_, rfl⟩
          have e1 := hc j (by omega)
          rw [← hy] at e1
          have HY := Lib.hid hy
          have hj1 : (k : Int) - 1 = (j : Int) := by omega
          have hjI : (j : Int) < ns.length := by omega
          have hpos : (0 : Int) < k := by omega
          clear hj hk0 hy hge hc
          cases hcmp : Op.bytesLess y.toList x.toList
          · have HCM := Lib.hid hcmp
            have HD := Lib.hid (show Says (.returned (.bool false)) p from by rw [HPP.out]; exact .no (fun h => by have h2 := (h k hlt).2 (by omega); rw [HX.out, show k - 1 = j from by have := HJ.out; omega, ← HY.out, HCM.out] at h2; cases h2))
            go_wp2_with fail
            refine HCL.out.mono ?_
            rintro e w1 ⟨rfl, hw⟩
            have hw := hw.symm
            subst hw
            go_wp2
            go_ret
            exact ⟨HD.out, rfl⟩
          · have HCM := Lib.hid hcmp
            have HAN := Lib.hid (asc_succ NameOk ns x y k j hlt HJ.out HX.out HY.out HA.out HN.out HCM.out)
            go_wp2_with fail
            refine HCL.out.mono ?_
            rintro e w1 ⟨rfl, hw⟩
            have hw := hw.symm
            subst hw
            go_wp2
            exact ⟨⟨k + 1, by omega, by go_num, HAN⟩, by simp [intOf]; omega⟩
      · have HD := Lib.hid (show Says (.returned (.bool false)) p from by rw [HPP.out]; exact .no (fun h => hN (by have h2 := (h k hlt).1; rw [HX.out] at h2; exact h2)))
        have HCL := Lib.hid (HNM.out.mono (R' := fun e w' => e = .returned (.bool false) ∧ w' = w) (fun e w' h => ⟨h.1.is_no hN, h.2⟩))
        clear hN HNM hc hge
        go_wp2_with fail
        refine HCL.out.mono ?_
        rintro e w1 ⟨rfl, hw⟩
        have hw := hw.symm
        subst hw
        go_wp2
        go_ret
        exact ⟨HD.out, rfl⟩
    · obtain rfl : k = ns.length := by omega
      have HD := Lib.hid (show Says (.returned (.bool true)) p from by rw [HPP.out]; have h := HA.out; rw [List.take_length] at h; exact .yes h)
      go_wp2
      go_ret
      exact ⟨HD.out, rfl⟩

set_option maxRecDepth 100000 in
set_option maxHeartbeats 2000000 in
theorem iascR_any (w : World) (base : Nat) (ns : List ByteArray) (an : Option Addr) (cn : Nat) (hl : Lies w base an ns) (hnl : ns.length ≤ 1048576) (hsl : ∀ s ∈ ns, s.size ≤ 1048576) :
    Calls Try.prog 72 #[.slice an ns.length cn, .func (.func 73) #[] #[]] w fun e w' => Says e (AscBy RoleOk ns) ∧ w' = w := by
  have HL := Lib.hid hl
  have HSL := Lib.hid hsl
  clear hl hsl
  obtain ⟨p, hp⟩ : ∃ p : Prop, p = AscBy RoleOk ns := ⟨_, rfl⟩
  rw [← hp]
  have HPP := Lib.hid hp
  clear hp
  go_enter Try.func72, Try.ntmps72
  go_wp2
  go_loop [9] (fun i => ∃ k : Nat, k ≤ ns.length ∧ i = .int .i64 k ∧ Hid (AscBy RoleOk (ns.take k))) (fun i => ns.length - (intOf i).toNat)
  case atStart => exact ⟨0, Nat.zero_le _, rfl, Lib.hid (fun i h => by simp at h)⟩
  case round =>
    obtain ⟨k, hk, rfl, HA⟩ := hrel
    by_cases hlt : k < ns.length
    · rcases HL.out with h0 | ⟨ab, o, rfl, -, hc⟩
      · omega
      obtain ⟨x, hx⟩ : ∃ x, x = ns.getD k ByteArray.empty := ⟨_, rfl⟩
      have hge : ns[k] = x := by rw [hx]; simp [hlt]
      have e0 := hc k hlt
      rw [← hx] at e0
      have hxs := HSL.out x (by rw [← hge]; exact List.getElem_mem hlt)
      have HNM := Lib.hid (irole_any w x hxs)
      have hkI : (k : Int) < ns.length := by omega
      clear hx
      have HX := Lib.hid hge
      by_cases hN : RoleOk x
      · have HN := Lib.hid hN
        have HCL := Lib.hid (HNM.out.mono (R' := fun e w' => e = .returned (.bool true) ∧ w' = w) (fun e w' h => ⟨h.1.is_yes hN, h.2⟩))
        clear hN HNM
        by_cases hk0 : k = 0
        · have HAN := Lib.hid (show AscBy RoleOk (ns.take (k + 1)) from by
            subst hk0
            exact asc_zero RoleOk ns x hlt HX.out HN.out)
          have hkn : ¬ (0 : Int) < k := by omega
          clear hk0 hge hc
          go_wp2_with fail
          refine HCL.out.mono ?_
          rintro e w1 ⟨rfl, hw⟩
          have hw := hw.symm
          subst hw
          go_wp2
          exact ⟨⟨k + 1, by omega, by go_num, HAN⟩, by simp [intOf]; omega⟩
        · obtain ⟨j, hj⟩ : ∃ j, k = j + 1 := ⟨k - 1, by omega⟩
          have HJ := Lib.hid hj
          obtain ⟨y, hy⟩ : ∃ y, y = ns.getD j ByteArray.empty := ⟨_, rfl⟩
          have e1 := hc j (by omega)
          rw [← hy] at e1
          have HY := Lib.hid hy
          have hj1 : (k : Int) - 1 = (j : Int) := by omega
          have hjI : (j : Int) < ns.length := by omega
          have hpos : (0 : Int) < k := by omega
          clear hj hk0 hy hge hc
          cases hcmp : Op.bytesLess y.toList x.toList
          · have HCM := Lib.hid hcmp
            have HD := Lib.hid (show Says (.returned (.bool false)) p from by rw [HPP.out]; exact .no (fun h => by have h2 := (h k hlt).2 (by omega); rw [HX.out, show k - 1 = j from by have := HJ.out; omega, ← HY.out, HCM.out] at h2; cases h2))
            go_wp2_with fail
            refine HCL.out.mono ?_
            rintro e w1 ⟨rfl, hw⟩
            have hw := hw.symm
            subst hw
            go_wp2
            go_ret
            exact ⟨HD.out, rfl⟩
          · have HCM := Lib.hid hcmp
            have HAN := Lib.hid (asc_succ RoleOk ns x y k j hlt HJ.out HX.out HY.out HA.out HN.out HCM.out)
            go_wp2_with fail
            refine HCL.out.mono ?_
            rintro e w1 ⟨rfl, hw⟩
            have hw := hw.symm
            subst hw
            go_wp2
            exact ⟨⟨k + 1, by omega, by go_num, HAN⟩, by simp [intOf]; omega⟩
      · have HD := Lib.hid (show Says (.returned (.bool false)) p from by rw [HPP.out]; exact .no (fun h => hN (by have h2 := (h k hlt).1; rw [HX.out] at h2; exact h2)))
        have HCL := Lib.hid (HNM.out.mono (R' := fun e w' => e = .returned (.bool false) ∧ w' = w) (fun e w' h => ⟨h.1.is_no hN, h.2⟩))
        clear hN HNM hc hge
        go_wp2_with fail
        refine HCL.out.mono ?_
        rintro e w1 ⟨rfl, hw⟩
        have hw := hw.symm
        subst hw
        go_wp2
        go_ret
        exact ⟨HD.out, rfl⟩
    · obtain rfl : k = ns.length := by omega
      have HD := Lib.hid (show Says (.returned (.bool true)) p from by rw [HPP.out]; have h := HA.out; rw [List.take_length] at h; exact .yes h)
      go_wp2
      go_ret
      exact ⟨HD.out, rfl⟩

set_option maxHeartbeats 1000000 in
theorem inames_any (w : World) (base : Nat) (ns : List ByteArray) (an : Option Addr) (cn : Nat) (hl : Lies w base an ns) (hnl : ns.length ≤ 1048576) (hsl : ∀ s ∈ ns, s.size ≤ 1048576) :
    Calls Try.prog 56 #[.slice an ns.length cn] w fun e w' => Says e (AscBy NameOk ns) ∧ w' = w := by
  have HC := Lib.hid (iascN_any w base ns an cn hl hnl hsl)
  clear hl hsl
  go_enter Try.func56, Try.ntmps56
  go_wp2_with fail
  refine HC.out.mono ?_
  rintro e w1 ⟨⟨b, rfl, hb⟩, rfl⟩
  have HB := Lib.hid hb
  clear hb
  go_wp2
  go_ret
  exact ⟨⟨b, rfl, HB.out⟩, rfl⟩

set_option maxHeartbeats 1000000 in
theorem iroles_any (w : World) (base : Nat) (ns : List ByteArray) (an : Option Addr) (cn : Nat) (hl : Lies w base an ns) (hnl : ns.length ≤ 1048576) (hsl : ∀ s ∈ ns, s.size ≤ 1048576) :
    Calls Try.prog 55 #[.slice an ns.length cn] w fun e w' => Says e (AscBy RoleOk ns) ∧ w' = w := by
  have HC := Lib.hid (iascR_any w base ns an cn hl hnl hsl)
  clear hl hsl
  go_enter Try.func55, Try.ntmps55
  go_wp2_with fail
  refine HC.out.mono ?_
  rintro e w1 ⟨⟨b, rfl, hb⟩, rfl⟩
  have HB := Lib.hid hb
  clear hb
  go_wp2
  go_ret
  exact ⟨⟨b, rfl, HB.out⟩, rfl⟩
end Go.Proofs.Ytpmjinlbfddmmaa
