import Derived.Test.YtnpgdjckhkmiiaaDoorM2
import Derived.Test.YtnpgdjckhkmiiaaDoorM3
namespace Go.Proofs.YtnpgdjckhkmiiaaDoor
open Go.RowKit

theorem B8.app {a b : List Int} (ha : B8 a) (hb : B8 b) : B8 (a ++ b) := fun x hx => by
  rcases List.mem_append.1 hx with h | h
  · exact ha x h
  · exact hb x h
theorem key_same (k : List Int) (hk : B8 k) : keyS k = keyI k := by unfold keyS keyI; rw [sha_same k hk]
theorem key_b (k : List Int) (hk : B8 k) : B8 (keyI k) := by
  unfold keyI; split
  · exact sha_b k
  · exact hk
theorem mac_same (k m : List Int) (hk : B8 k) (hm : B8 m) : macS k m = macI k m := by
  have h5 : B8 (padK (keyI k) 54) := maskT_b _ (key_b k hk) 54 (by decide) (by decide) 64
  have h9 : B8 (padK (keyI k) 92) := maskT_b _ (key_b k hk) 92 (by decide) (by decide) 64
  unfold macS macI
  rw [key_same k hk, sha_same _ (B8.app h5 hm), sha_same _ (B8.app h9 (sha_b _))]

set_option maxHeartbeats 400000 in
theorem exactMac_walk (w : World) (hw : Tabs w) (k m : ByteArray) : Calls Tryd.prog 7 #[.string k, .string m] w fun e w' => e = .returned (.bool true) ∧ w.grownBy w' none := by
  have HW := Lib.hid hw
  clear hw
  by_cases hk : (k.size : Int) > 1048576
  · go_enter Tryd.func7, Tryd.ntmps7
    go_wp2
    go_ret
    exact ⟨rfl, grown_refl _ _⟩
  have hk' : (k.size : Int) ≤ 1048576 := by omega
  clear hk
  by_cases hm : (m.size : Int) > 1048576
  · go_enter Tryd.func7, Tryd.ntmps7
    go_wp2
    go_ret
    exact ⟨rfl, grown_refl _ _⟩
  have hm' : (m.size : Int) ≤ 1048576 := by omega
  clear hm
  go_enter Tryd.func7, Tryd.ntmps7
  go_wp2_with fail
  refine (specHashMac_any w k m (by omega) (by omega)).mono ?_
  rintro e w1 ⟨rfl, hg1⟩
  rw [mac_same _ _ (bI_b k) (bI_b m)]
  have HG1 := Lib.hid hg1
  clear hg1
  obtain ⟨r, hr⟩ : ∃ r, r = strI (hexL (macI (bI k) (bI m))) := ⟨_, rfl⟩
  rw [← hr]
  go_wp2_with fail
  refine (HashMac_any w1 (HW.out.grown HG1.out) k m (by omega) (by omega)).mono ?_
  rintro e w2 ⟨rfl, hg2⟩
  rw [← hr]
  have HG2 := Lib.hid hg2
  clear hg2 hr
  go_wp2
  go_ret
  exact ⟨rfl, grown_trans HG1.out HG2.out⟩

end Go.Proofs.YtnpgdjckhkmiiaaDoor
