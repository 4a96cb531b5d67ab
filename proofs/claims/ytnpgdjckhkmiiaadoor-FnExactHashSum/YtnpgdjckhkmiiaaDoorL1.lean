import Derived.Test.YtnpgdjckhkmiiaaDoorE1
namespace Go.Proofs.YtnpgdjckhkmiiaaDoor
open Go.RowKit

set_option maxHeartbeats 400000 in
theorem exactSum_walk (w : World) (hw : Tabs w) (s : ByteArray) : Calls Tryd.prog 6 #[.string s] w fun e w' => e = .returned (.bool true) ∧ w.grownBy w' none := by
  have HW := Lib.hid hw
  clear hw
  by_cases hs : (s.size : Int) > 1048576
  · go_enter Tryd.func6, Tryd.ntmps6
    go_wp2
    go_ret
    exact ⟨rfl, grown_refl _ _⟩
  · have hs' : (s.size : Int) ≤ 1048576 := by omega
    clear hs
    go_enter Tryd.func6, Tryd.ntmps6
    go_wp2_with fail
    refine (specHashSum_any w s (by omega)).mono ?_
    rintro e w1 ⟨rfl, hg1⟩
    rw [sha_same _ (bI_b s)]
    have HG1 := Lib.hid hg1
    clear hg1
    obtain ⟨r, hr⟩ : ∃ r, r = strI (hexL (sha (bI s))) := ⟨_, rfl⟩
    rw [← hr]
    go_wp2_with fail
    refine (HashSum_any w1 (HW.out.grown HG1.out) s (by omega)).mono ?_
    rintro e w2 ⟨rfl, hg2⟩
    rw [← hr]
    have HG2 := Lib.hid hg2
    clear hg2 hr
    go_wp2
    go_ret
    exact ⟨rfl, grown_trans HG1.out HG2.out⟩

end Go.Proofs.YtnpgdjckhkmiiaaDoor
