/- FnExactHouseGiven, walked: the id that the world gives for a key. -/
import Derived.Test.YtlnngamhjinpbaaDoorG1
namespace Go.Proofs.YtlnngamhjinpbaaDoor
open Go.RowKit

/-- the id for a key -/
def givenT (s : ByteArray) : ByteArray := ⟨#[105, 45]⟩ ++ (sumT s).extract 0 6

set_option maxRecDepth 100000 in
set_option maxHeartbeats 1000000 in
theorem igiven_any (w : World) (hw : Tabs w) (s : ByteArray) (hs : s.size ≤ 4194304) : Calls Tryd.prog 28 #[.string s] w fun e w' => e = .returned (.string (givenT s)) ∧ w.grownBy w' none := by
  have HC := Lib.hid (isum_any w hw s hs)
  have HG := Lib.hid (show givenT s = ⟨#[105, 45]⟩ ++ (sumT s).extract 0 6 from rfl)
  have hz := sumT_size s
  generalize sumT s = T at HC HG hz
  clear hw
  go_enter Tryd.func28, Tryd.ntmps28
  go_wp2_with fail
  refine HC.out.mono ?_
  rintro e w1 ⟨rfl, hg1⟩
  have HG1 := Lib.hid hg1
  clear hg1 HC
  have h2 : (⟨#[105, 45]⟩ : ByteArray).size = 2 := rfl
  go_wp2
  go_ret
  exact ⟨by rw [HG.out]; rfl, HG1.out⟩
set_option maxRecDepth 100000 in
set_option maxHeartbeats 1000000 in
theorem sgiven_any (w : World) (s : ByteArray) (hs : s.size ≤ 4194304) : Calls Tryd.prog 27 #[.string s] w fun e w' => e = .returned (.string (givenT s)) ∧ w.grownBy w' none := by
  have HC := Lib.hid (ssum_any w s hs)
  have HG := Lib.hid (show givenT s = ⟨#[105, 45]⟩ ++ (sumT s).extract 0 6 from rfl)
  have hz := sumT_size s
  generalize sumT s = T at HC HG hz
  go_enter Tryd.func27, Tryd.ntmps27
  go_wp2_with fail
  refine HC.out.mono ?_
  rintro e w1 ⟨rfl, hg1⟩
  have HG1 := Lib.hid hg1
  clear hg1 HC
  have h2 : (⟨#[105, 45]⟩ : ByteArray).size = 2 := rfl
  go_wp2
  go_ret
  exact ⟨by rw [HG.out]; rfl, HG1.out⟩

set_option maxRecDepth 100000 in
set_option maxHeartbeats 1000000 in
theorem exactHouseGiven_walk (w : World) (hw : Tabs w) (s : ByteArray) : Calls Tryd.prog 7 #[.string s] w fun e w' => e = .returned (.bool true) ∧ w.grownBy w' none := by
  by_cases hs : (s.size : Int) > 1048576
  · go_enter Tryd.func7, Tryd.ntmps7
    go_wp2
    go_ret
    exact ⟨rfl, grown_refl _ _⟩
  have hs' : (s.size : Int) ≤ 1048576 := by omega
  have HS := Lib.hid (sgiven_any w s (by omega))
  have HI := Lib.hid (fun (W : World) (hW : w.grownBy W none) => igiven_any W (hw.grown hW) s (by omega))
  clear hs hw
  generalize givenT s = T at HS HI
  go_enter Tryd.func7, Tryd.ntmps7
  go_wp2_with fail
  refine HS.out.mono ?_
  rintro e w1 ⟨rfl, hg1⟩
  have HG1 := Lib.hid hg1
  clear hg1 HS
  go_wp2_with fail
  refine (HI.out w1 HG1.out).mono ?_
  rintro e w2 ⟨rfl, hg2⟩
  have HG2 := Lib.hid (grown_trans HG1.out hg2)
  clear hg2 HI
  go_wp2
  go_ret
  exact ⟨rfl, HG2.out⟩
end Go.Proofs.YtlnngamhjinpbaaDoor
