import Derived.Test.YtnpgdjckhkmiiaaDoorE1
import Derived.Test.YtnpgdjckhkmiiaaDoorD2
import Derived.Test.YtnpgdjckhkmiiaaDoorK0
namespace Go.Proofs.YtnpgdjckhkmiiaaDoor
open Go.RowKit

set_option maxRecDepth 100000 in
set_option maxHeartbeats 1000000 in
theorem hashKnown_walk (w : World) (hw : Tabs w) (ao : Option Addr) (n cap : Nat) (hcap : n ≤ cap) (hc : Came w ao n) :
    Calls Tryd.prog 3 #[.slice ao n cap] w fun e w' => e = .returned (.bool true) ∧ w.grownBy w' none := by
  have HW := Lib.hid hw
  clear hw
  by_cases hn : (n : Int) > 1048576
  · clear hc
    go_enter Tryd.func3, Tryd.ntmps3
    go_wp2
    go_ret
    exact ⟨rfl, grown_refl _ _⟩
  have hn' : (n : Int) ≤ 1048576 := by omega
  have HD := Lib.hid (drawSum_any w ao n cap (by omega) hcap hc)
  clear hn hc
  go_enter Tryd.func3, Tryd.ntmps3
  go_wp2_with fail
  refine HD.out.mono ?_
  rintro e w1 ⟨s, rfl, hs, hg1⟩
  have HG1 := Lib.hid hg1
  clear hg1 HD
  obtain ⟨r, hr⟩ : ∃ r, r = strI (hexL (sha (bI s))) := ⟨_, rfl⟩
  have hrs : ((r.size : Int) == 64) = true := by rw [hr, strI_size, hexL_len, sha_len]; rfl
  have HR := Lib.hid hr
  go_wp2_with fail
  refine (HashSum_any w1 (HW.out.grown HG1.out) s (by omega)).mono ?_
  rintro e w2 ⟨rfl, hg2⟩
  rw [← hr]
  have HG2 := Lib.hid (grown_trans HG1.out hg2)
  clear hg2 HG1 hr
  go_wp2_with fail
  refine (HashSum_any w2 (HW.out.grown HG2.out) ⟨#[97, 98, 99]⟩ (by decide)).mono ?_
  rintro e w3 ⟨rfl, hg3⟩
  rw [shaAbc]
  have HG3 := Lib.hid (grown_trans HG2.out hg3)
  clear hg3 HG2
  go_wp2_with fail
  refine (HashSum_any w3 (HW.out.grown HG3.out) ⟨#[]⟩ (by decide)).mono ?_
  rintro e w4 ⟨rfl, hg4⟩
  rw [shaNone]
  have HG4 := Lib.hid (grown_trans HG3.out hg4)
  clear hg4 HG3
  go_wp2_with fail
  refine (specHashSum_any w4 s (by omega)).mono ?_
  rintro e w5 ⟨rfl, hg5⟩
  rw [sha_same _ (bI_b s), ← HR.out]
  have HG5 := Lib.hid (grown_trans HG4.out hg5)
  clear hg5 HG4
  go_wp2
  go_ret
  exact ⟨rfl, HG5.out⟩

end Go.Proofs.YtnpgdjckhkmiiaaDoor
