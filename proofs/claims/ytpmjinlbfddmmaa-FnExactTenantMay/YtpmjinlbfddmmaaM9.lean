/- FnExactTenantMay, walked. -/
import Derived.Test.YtpmjinlbfddmmaaM9A
namespace Go.Proofs.Ytpmjinlbfddmmaa
open Go.RowKit

set_option maxRecDepth 100000 in
set_option maxHeartbeats 1000000 in
theorem user_any (w : World) (base : Nat) (us : List (ByteArray × List ByteArray)) (ao : Option Addr) (cap : Nat) (hl : ULies w base ao us) (hn : us.length ≤ 1048576) (nm : ByteArray) :
    Calls Try.prog 46 #[.slice ao us.length cap, .string nm] w fun e w' => (∃ r : Int, e = .returned (.int .i64 r) ∧ ((r = -1 ∧ ∀ i (h : i < us.length), us[i].1.toList ≠ nm.toList) ∨ ∃ i : Nat, ∃ h : i < us.length, r = i ∧ us[i].1.toList = nm.toList)) ∧ w' = w := by
  have HP := Lib.hid hl
  clear hl
  go_enter Try.func46, Try.ntmps46
  go_wp2
  go_loop [5] (fun i => ∃ k : Nat, k ≤ us.length ∧ i = .int .i64 k ∧ Hid (∀ j (h : j < us.length), j < k → us[j].1.toList ≠ nm.toList)) (fun i => us.length - (intOf i).toNat)
  case atStart => exact ⟨0, Nat.zero_le _, rfl, Lib.hid (fun j _ h => absurd h (Nat.not_lt_zero _))⟩
  case round =>
    obtain ⟨k, hk, rfl, HA⟩ := hrel
    by_cases hlt : k < us.length
    · rcases HP.out with h00 | ⟨b, o, rfl, -, hc⟩
      · omega
      obtain ⟨ar, cr, ht⟩ := hc k hlt
      have d0 := ht.1
      obtain ⟨x, hx⟩ : ∃ x, us[k].1 = x := ⟨_, rfl⟩
      have HX := Lib.hid hx
      rw [hx] at d0
      have hkI : (k : Int) < us.length := by omega
      clear hc ht hx
      cases hE : (x.toList == nm.toList)
      · have HN := Lib.hid (show x.toList ≠ nm.toList from by simpa using hE)
        go_wp2
        exact ⟨⟨k + 1, by omega, by go_num, Lib.hid fun j h hj => by
          by_cases e : j = k
          · subst e; rw [HX.out]; exact HN.out
          · exact HA.out j h (by omega)⟩, by simp [intOf]; omega⟩
      · have HD := Lib.hid (show us[k].1.toList = nm.toList from by rw [HX.out]; simpa using hE)
        go_wp2
        go_ret
        exact ⟨⟨_, rfl, .inr ⟨k, rfl, hlt, HD.out⟩⟩, rfl⟩
    · obtain rfl : k = us.length := by omega
      have HD := Lib.hid (show ∀ i (h : i < us.length), us[i].1.toList ≠ nm.toList from fun i h => HA.out i h h)
      go_wp2
      go_ret
      exact ⟨⟨_, rfl, .inl ⟨rfl, HD.out⟩⟩, rfl⟩

set_option maxRecDepth 100000 in
set_option maxHeartbeats 2000000 in
theorem may_any (w : World) (base : Nat) (us : List (ByteArray × List ByteArray)) (ao : Option Addr) (cap : Nat) (hl : ULies w base ao us) (hn : us.length + bulkU us ≤ 1048576) (nm rl : ByteArray) :
    Calls Try.prog 19 #[.slice ao us.length cap, .string nm, .string rl] w fun e w' => Says e (MayP us nm rl) ∧ w.grownBy w' none := by
  have hn' : us.length ≤ 1048576 := by omega
  have HU := Lib.hid (user_any w base us ao cap hl hn' nm)
  have HS := Lib.hid (users_any w base us ao cap hl hn)
  have HL := Lib.hid hl
  have HRS := Lib.hid (fun (j : Nat) (h : j < us.length) => roles_len us 1048576 hn j h)
  clear hl
  go_enter Try.func19, Try.ntmps19
  go_wp2_with fail
  refine HU.out.mono ?_
  rintro e w1 ⟨⟨r, rfl, hr⟩, rfl⟩
  have HR := Lib.hid hr
  clear hr HU
  go_wp2_with fail
  refine HS.out.mono ?_
  rintro e w2 ⟨⟨b, rfl, hb⟩, hg2⟩
  have HG2 := Lib.hid hg2
  have HB := Lib.hid hb
  clear hg2 hb HS
  cases b
  · have HD := Lib.hid (show Says (.returned (.bool false)) (MayP us nm rl) from .no (fun h => by have := HB.out.2 h.1; cases this))
    go_wp2
    go_ret
    exact ⟨HD.out, HG2.out⟩
  have HUP := Lib.hid (HB.out.1 rfl)
  rcases HR.out with ⟨rfl, hno⟩ | ⟨i, hi, rfl, he⟩
  · have HD := Lib.hid (show Says (.returned (.bool false)) (MayP us nm rl) from .no (fun ⟨_, j, hj, h1, _⟩ => hno j hj h1))
    clear hno
    go_wp2
    go_ret
    exact ⟨HD.out, HG2.out⟩
  · rcases HL.out with h00 | ⟨bb, o, rfl, -, hc⟩
    · omega
    obtain ⟨ar, cr, ht⟩ := hc i hi
    obtain ⟨d0, d1, hls⟩ := ht.kept HG2.out (by simp) (fun q e => by cases e)
    have z1 := HRS.out i hi
    have HE := Lib.hid he
    have hiI : (i : Int) < us.length := by omega
    obtain ⟨u, hu⟩ : ∃ u, us[i] = u := ⟨_, rfl⟩
    have HUI := Lib.hid hu
    rw [hu] at d0 d1 hls z1
    have HC := Lib.hid (has_any w2 base u.2 ar cr hls z1 rl)
    clear hc ht hls he hu HR
    go_wp2_with fail
    refine HC.out.mono ?_
    rintro e w3 ⟨⟨c, rfl, hcc⟩, rfl⟩
    have HD := Lib.hid (show Says (.returned (.bool c)) (MayP us nm rl) from ⟨c, rfl, by
      rw [hcc]
      constructor
      · intro h
        exact ⟨HUP.out, i, hi, HE.out, by rw [HUI.out]; exact h⟩
      · rintro ⟨hU, j, hj, h1, h2⟩
        have hji : j = i := asc_one hU.2.2 j i (by simpa using hj) (by simpa using hi) (by simp only [List.getElem_map]; rw [h1, HE.out])
        subst hji
        rw [HUI.out] at h2
        exact h2⟩)
    clear hcc HC
    go_wp2
    go_ret
    exact ⟨HD.out, HG2.out⟩

set_option maxRecDepth 100000 in
set_option maxHeartbeats 2000000 in
theorem exactTenantMay_walk (w : World) (us : List (ByteArray × List ByteArray)) (ao : Option Addr) (cap : Nat) (hl : ULies w 0 ao us) (hn : us.length ≤ 9223372036854775807) (hz : USz us) (nm rl : ByteArray) :
    Calls Try.prog 5 #[.slice ao us.length cap, .string nm, .string rl] w fun e w' => e = .returned (.bool true) ∧ w.grownBy w' none := by
  have HS := Lib.hid (szUsers_any w us ao cap hl hn hz w (grown_refl _ _) 1048576 (by omega))
  have HL := Lib.hid hl
  clear hl hz
  by_cases g1 : (1048576 : Int) < nm.size
  · go_enter Try.func5, Try.ntmps5
    go_wp2
    go_ret
    exact ⟨rfl, grown_refl _ _⟩
  by_cases g2 : (1048576 : Int) < rl.size
  · go_enter Try.func5, Try.ntmps5
    go_wp2
    go_ret
    exact ⟨rfl, grown_refl _ _⟩
  go_enter Try.func5, Try.ntmps5
  go_wp2_with fail
  refine HS.out.mono ?_
  rintro e w1 ⟨r, rfl, hr, hg1⟩
  have HG1 := Lib.hid hg1
  clear hg1 HS
  rcases hr with ⟨rfl, hr⟩ | ⟨hr0, hr⟩
  · clear hr
    go_wp2
    go_ret
    exact ⟨rfl, HG1.out⟩
  have hbu : us.length + bulkU us ≤ 1048576 := by omega
  have hr' : ¬ r < 0 := by omega
  clear hr
  have HTO := Lib.hid (fun (W : World) (hW : w.grownBy W none) => toUsers_any w 0 us ao cap HL.out hbu W hW)
  have HBU := Lib.hid hbu
  clear hbu
  go_wp2_with fail
  refine (HTO.out w1 HG1.out).mono ?_
  rintro e w2 ⟨rfl, hl2, hg2⟩
  have HG2 := Lib.hid (grown_trans HG1.out hg2)
  have HU := Lib.hid (may_any w2 _ us _ us.length hl2 HBU.out nm rl)
  clear hl2 hg2
  go_wp2_with fail
  refine HU.out.mono ?_
  rintro e w3 ⟨⟨b, rfl, hb⟩, hg3⟩
  have HG3 := Lib.hid (grown_trans HG2.out hg3)
  have HBB := Lib.hid hb
  clear hg3 HU hb
  go_wp2_with fail
  refine (HTO.out w3 HG3.out).mono ?_
  rintro e w4 ⟨rfl, hl4, hg4⟩
  have HG4 := Lib.hid (grown_trans HG3.out hg4)
  have HL4 := Lib.hid hl4
  have HI := Lib.hid (imay_any w4 _ us _ us.length hl4 HBU.out nm rl)
  clear hl4 hg4
  go_wp2_with fail
  refine HI.out.mono ?_
  rintro e w5 ⟨⟨b', rfl, hb'⟩, hg5⟩
  have HG5 := Lib.hid (grown_trans HG4.out hg5)
  have HL5 := Lib.hid (HL4.out.grown hg5)
  obtain rfl : b' = b := by rw [Bool.eq_iff_iff, hb', HBB.out]
  clear hg5 HI hb'
  cases b'
  all_goals
    go_wp2_with fail
    refine (HTO.out w5 HG5.out).mono ?_
    rintro e w6 ⟨rfl, hl6, hg6⟩
    have HG6 := Lib.hid (grown_trans HG5.out hg6)
    have HEQ := Lib.hid (eqUsers_any w6 _ _ us _ _ us.length us.length (HL5.out.grown hg6) hl6 HBU.out w6 (grown_refl _ _))
    clear hl6 hg6
    go_wp2_with fail
    refine HEQ.out.mono ?_
    rintro e w7 ⟨rfl, hg7⟩
    have HG7 := Lib.hid (grown_trans HG6.out hg7)
    clear hg7 HEQ
    go_wp2
    go_ret
    exact ⟨rfl, HG7.out⟩
end Go.Proofs.Ytpmjinlbfddmmaa
