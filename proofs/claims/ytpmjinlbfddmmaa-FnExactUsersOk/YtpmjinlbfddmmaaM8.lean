/- FnExactUsersOk, walked. -/
import Derived.Test.YtpmjinlbfddmmaaM7
namespace Go.Proofs.Ytpmjinlbfddmmaa
open Go.RowKit

set_option maxRecDepth 100000 in
set_option maxHeartbeats 2000000 in
theorem exactUsersOk_walk (w : World) (us : List (ByteArray × List ByteArray)) (ao : Option Addr) (cap : Nat) (hl : ULies w 0 ao us) (hn : us.length ≤ 9223372036854775807) (hz : USz us) :
    Calls Try.prog 6 #[.slice ao us.length cap] w fun e w' => e = .returned (.bool true) ∧ w.grownBy w' none := by
  have HS := Lib.hid (szUsers_any w us ao cap hl hn hz w (grown_refl _ _) 1048576 (by omega))
  have HL := Lib.hid hl
  clear hl hz
  go_enter Try.func6, Try.ntmps6
  go_wp2_with fail
  refine HS.out.mono ?_
  rintro e w1 ⟨r, rfl, hr, hg1⟩
  have HG1 := Lib.hid hg1
  clear hg1 HS
  rcases hr with ⟨rfl, hr⟩ | ⟨hr0, hr⟩
  · clear hr
    go_wp2
    go_ret
    exact ⟨rfl, HG1.out⟩
  have hbu : us.length + bulkU us ≤ 1048576 := by omega
  have hr' : ¬ r < 0 := by omega
  clear hr
  have HTO := Lib.hid (fun (W : World) (hW : w.grownBy W none) => toUsers_any w 0 us ao cap HL.out hbu W hW)
  have HBU := Lib.hid hbu
  clear hbu
  go_wp2_with fail
  refine (HTO.out w1 HG1.out).mono ?_
  rintro e w2 ⟨rfl, hl2, hg2⟩
  have HG2 := Lib.hid (grown_trans HG1.out hg2)
  have HU := Lib.hid (users_any w2 _ us _ us.length hl2 HBU.out)
  clear hl2 hg2
  go_wp2_with fail
  refine HU.out.mono ?_
  rintro e w3 ⟨⟨b, rfl, hb⟩, hg3⟩
  have HG3 := Lib.hid (grown_trans HG2.out hg3)
  have HBB := Lib.hid hb
  clear hg3 HU hb
  go_wp2_with fail
  refine (HTO.out w3 HG3.out).mono ?_
  rintro e w4 ⟨rfl, hl4, hg4⟩
  have HG4 := Lib.hid (grown_trans HG3.out hg4)
  have HL4 := Lib.hid hl4
  have HI := Lib.hid (iusers_any w4 _ us _ us.length hl4 HBU.out)
  clear hl4 hg4
  go_wp2_with fail
  refine HI.out.mono ?_
  rintro e w5 ⟨⟨b', rfl, hb'⟩, hg5⟩
  have HG5 := Lib.hid (grown_trans HG4.out hg5)
  have HL5 := Lib.hid (HL4.out.grown hg5)
  obtain rfl : b' = b := by rw [Bool.eq_iff_iff, hb', HBB.out]
  clear hg5 HI hb'
  cases b'
  all_goals
    go_wp2_with fail
    refine (HTO.out w5 HG5.out).mono ?_
    rintro e w6 ⟨rfl, hl6, hg6⟩
    have HG6 := Lib.hid (grown_trans HG5.out hg6)
    have HEQ := Lib.hid (eqUsers_any w6 _ _ us _ _ us.length us.length (HL5.out.grown hg6) hl6 HBU.out w6 (grown_refl _ _))
    clear hl6 hg6
    go_wp2_with fail
    refine HEQ.out.mono ?_
    rintro e w7 ⟨rfl, hg7⟩
    have HG7 := Lib.hid (grown_trans HG6.out hg7)
    clear hg7 HEQ
    go_wp2
    go_ret
    exact ⟨rfl, HG7.out⟩
end Go.Proofs.Ytpmjinlbfddmmaa
