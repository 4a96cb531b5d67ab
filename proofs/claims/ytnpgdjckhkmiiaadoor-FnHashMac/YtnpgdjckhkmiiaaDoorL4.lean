import Derived.Test.YtnpgdjckhkmiiaaDoorL2
import Derived.Test.YtnpgdjckhkmiiaaDoorD3
import Derived.Test.YtnpgdjckhkmiiaaDoorN6
import Derived.Laws.Strings
namespace Go.Proofs.YtnpgdjckhkmiiaaDoor
open Go.RowKit

theorem fox_any (w : World) (hw : Tabs w) : Calls Tryd.prog 13 #[.string ⟨#[107, 101, 121]⟩, .string ⟨#[84, 104, 101, 32, 113, 117, 105, 99, 107, 32, 98, 114, 111, 119, 110, 32, 102, 111, 120, 32, 106, 117, 109, 112, 115, 32, 111, 118, 101, 114, 32, 116, 104, 101, 32, 108, 97, 122, 121, 32, 100, 111, 103]⟩] w fun e w' => e = .returned (.string ⟨#[102, 55, 98, 99, 56, 51, 102, 52, 51, 48, 53, 51, 56, 52, 50, 52, 98, 49, 51, 50, 57, 56, 101, 54, 97, 97, 54, 102, 98, 49, 52, 51, 101, 102, 52, 100, 53, 57, 97, 49, 52, 57, 52, 54, 49, 55, 53, 57, 57, 55, 52, 55, 57, 100, 98, 99, 50, 100, 49, 97, 51, 99, 100, 56]⟩) ∧ w.grownBy w' none :=
  macFox ▸ HashMac_any w hw ⟨#[107, 101, 121]⟩ ⟨#[84, 104, 101, 32, 113, 117, 105, 99, 107, 32, 98, 114, 111, 119, 110, 32, 102, 111, 120, 32, 106, 117, 109, 112, 115, 32, 111, 118, 101, 114, 32, 116, 104, 101, 32, 108, 97, 122, 121, 32, 100, 111, 103]⟩ (by decide) (by decide)

theorem mac33_any (w : World) (hw : Tabs w) (t k3 : ByteArray) (r2 : ByteArray) (hk : k3.size ≤ 4194304) (ht : t.size ≤ 4194304) (hr2 : r2 = strI (hexL (macI (bI k3) (bI t)))) :
    Calls Tryd.prog 13 #[.string k3, .string t] w fun e w' => e = .returned (.string r2) ∧ w.grownBy w' none := by
  subst hr2
  exact HashMac_any w hw k3 t hk ht

set_option maxRecDepth 100000 in
set_option maxHeartbeats 1000000 in
theorem hashMac_walk (w : World) (hw : Tabs w) (ao : Option Addr) (n cap : Nat) (hcap : n ≤ cap) (hc : Came w ao n) :
    Calls Tryd.prog 4 #[.slice ao n cap] w fun e w' => e = .returned (.bool true) ∧ w.grownBy w' none := by
  have HW := Lib.hid hw
  clear hw
  by_cases hn : (n : Int) > 1048576
  · clear hc
    go_enter Tryd.func4, Tryd.ntmps4
    go_wp2
    go_ret
    exact ⟨rfl, grown_refl _ _⟩
  have hn' : (n : Int) ≤ 1048576 := by omega
  have HD := Lib.hid (drawMac_any w ao n cap (by omega) hcap hc)
  clear hn hc
  go_enter Tryd.func4, Tryd.ntmps4
  go_wp2_with fail
  refine HD.out.mono ?_
  rintro e w1 ⟨k, t, N, c, l, rfl, hN, hcc, hl, hk, ht, hks, hts, hg1⟩
  have HG1 := Lib.hid hg1
  obtain ⟨r, hr⟩ : ∃ r, r = strI (hexL (macI (bI k) (bI t))) := ⟨_, rfl⟩
  obtain ⟨r2, hr2⟩ : ∃ r, r = strI (hexL (macI (bI (k ++ ⟨#[33]⟩)) (bI t))) := ⟨_, rfl⟩
  have hne2 : r ≠ r2 := by
    have h33 : bI (k ++ ⟨#[33]⟩) = repI N [107] ++ [33] := by rw [bI_app, hk]; rfl
    rw [hr, hr2, h33, hk, ht]
    rcases hl with rfl | rfl
    · exact drawn_differ N c hN hcc [109] (.inl rfl)
    · exact drawn_differ N c hN hcc [116, 101, 120, 116] (.inr rfl)
  have hnt : ¬ r.toList = r2.toList := fun e => by
    rw [Go.ByteArray.toList_eq, Go.ByteArray.toList_eq] at e
    exact hne2 (WideShapes.bytes_inj e)
  have hnq : (r.toList == r2.toList) = false := by simp [hnt]
  have h1 : (⟨#[33]⟩ : ByteArray).size = 1 := rfl
  have hk3 : (k ++ ⟨#[33]⟩).size ≤ 4194304 := by rw [ByteArray.size_append, h1]; omega
  have hlim : ¬ 9223372036854775807 < k.size + (⟨#[33]⟩ : ByteArray).size := by rw [h1]; omega
  have hts4 : t.size ≤ 4194304 := by omega
  have HK3 := Lib.hid (fun W hW => mac33_any W hW t _ r2 hk3 hts4 hr2)
  have HR := Lib.hid hr
  clear h1 hk3 hg1 HD hN hl hk ht hcc hr hr2
  go_wp2_with fail
  refine (HashMac_any w1 (HW.out.grown HG1.out) k t (by omega) (by omega)).mono ?_
  rintro e w2 ⟨rfl, hg2⟩
  rw [← HR.out]
  have HG2 := Lib.hid (grown_trans HG1.out hg2)
  clear hg2 HG1
  go_wp2_with fail
  refine (specHashMac_any w2 k t (by omega) (by omega)).mono ?_
  rintro e w3 ⟨rfl, hg3⟩
  rw [mac_same _ _ (bI_b k) (bI_b t), ← HR.out]
  have HG3 := Lib.hid (grown_trans HG2.out hg3)
  clear hg3 HG2
  go_wp2_with fail
  refine (HK3.out w3 (HW.out.grown HG3.out)).mono ?_
  rintro e w4 ⟨rfl, hg4⟩
  have HG4 := Lib.hid (grown_trans HG3.out hg4)
  clear hg4 HG3
  go_wp2_with fail
  refine (fox_any w4 (HW.out.grown HG4.out)).mono ?_
  rintro e w5 ⟨rfl, hg5⟩
  have HG5 := Lib.hid (grown_trans HG4.out hg5)
  clear hg5 HG4
  go_wp2
  go_ret
  exact ⟨by first | rfl | (show Ending.returned (.bool (!(r.toList == r2.toList))) = _; rw [hnq]; rfl), HG5.out⟩

end Go.Proofs.YtnpgdjckhkmiiaaDoor
