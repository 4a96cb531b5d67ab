import Derived.Test.YtnpgdjckhkmiiaaDoorM1
import Derived.Deep.CutRange
namespace Go.Proofs.YtnpgdjckhkmiiaaDoor
open Go.RowKit

/-- the key as the document's model lays it into its block -/
def keyS (k : List Int) : List Int := if 64 < k.length then shaS k else k
def macS (k m : List Int) : List Int := shaS (padK (keyS k) 92 ++ shaS (padK (keyS k) 54 ++ m))
theorem shaS_b (m : List Int) : B8 (shaS m) := out4_b _
theorem bI_app (a b : ByteArray) : bI (a ++ b) = bI a ++ bI b := by simp [bI]

set_option maxRecDepth 100000 in
set_option maxHeartbeats 1000000 in
theorem specHashMac_any (w : World) (k m : ByteArray) (hk : k.size ≤ 4194304) (hm : m.size ≤ 4194240) :
    Calls Tryd.prog 14 #[.string k, .string m] w fun e w' => e = .returned (.string (strI (hexL (macS (bI k) (bI m))))) ∧ w.grownBy w' none := by
  go_enter Tryd.func14, Tryd.ntmps14
  go_upto_if 9 with (fail)
  go_cut [5, 9] from 10 to 11 (fun v _ wx => ∃ q : ByteArray, v = .string q ∧ q.size ≤ 64 ∧ Hid (bI q = keyS (bI k)) ∧ Hid (w.grownBy wx none))
  case first =>
    by_cases hb : (k.size : Int) > 64
    · go_wp2_with fail
      refine (specSum_walk w k hk).mono ?_
      rintro e w1 ⟨rfl, hg⟩
      have HG := Lib.hid hg
      clear hg
      go_wp2_with fail
      go_meet
      refine ⟨strI (shaS (bI k)), rfl, by rw [strI_size, shaS_len]; decide, Lib.hid ?_, HG⟩
      rw [bI_strI _ (shaS_b _)]
      unfold keyS
      rw [if_pos (by rw [bI_len]; omega)]
    · have hb' : (k.size : Int) ≤ 64 := by omega
      go_wp2_with fail
      go_meet
      refine ⟨k, rfl, by omega, Lib.hid ?_, Lib.hid (grown_refl _ _)⟩
      unfold keyS
      rw [if_neg (by rw [bI_len]; omega)]
  case rest =>
    obtain ⟨q, rfl, hq, HQ, HG0⟩ := hcut
    have HX := Lib.hid (show bI (strI (padK (bI q) 54)) = padK (bI q) 54 from bI_strI _ (maskT_b _ (bI_b q) 54 (by decide) (by decide) 64))
    have HY := Lib.hid (show bI (strI (padK (bI q) 92)) = padK (bI q) 92 from bI_strI _ (maskT_b _ (bI_b q) 92 (by decide) (by decide) 64))
    have HS := Lib.hid (show (strI (padK (bI q) 54)).size = 64 ∧ (strI (padK (bI q) 92)).size = 64 from ⟨by rw [strI_size, padK_len], by rw [strI_size, padK_len]⟩)
    go_wp2_with fail
    refine (specPad_walk wc q hq 92 (by decide) (by decide)).mono ?_
    rintro e w1 ⟨rfl, hg1⟩
    have HG1 := Lib.hid (grown_trans HG0.out hg1)
    clear hg1
    generalize strI (padK (bI q) 92) = p92 at HY HS ⊢
    go_wp2_with fail
    refine (specPad_walk w1 q hq 54 (by decide) (by decide)).mono ?_
    rintro e w2 ⟨rfl, hg2⟩
    have HG2 := Lib.hid (grown_trans HG1.out hg2)
    clear hg2
    generalize strI (padK (bI q) 54) = p54 at HX HS ⊢
    have hlim : ¬ 9223372036854775807 < p54.size + m.size := by have := HS.out.1; omega
    go_wp2_with fail
    refine (specSum_walk w2 (p54 ++ m) (by rw [ByteArray.size_append]; have := HS.out.1; omega)).mono ?_
    rintro e w3 ⟨rfl, hg3⟩
    rw [bI_app, HX.out]
    have HG3 := Lib.hid (grown_trans HG2.out hg3)
    clear hg3
    obtain ⟨M, hM⟩ : ∃ M, M = shaS (padK (bI q) 54 ++ bI m) := ⟨_, rfl⟩
    have hsm : (strI (shaS (padK (bI q) 54 ++ bI m))).size = 32 := by rw [strI_size, shaS_len]
    have hbm : bI (strI (shaS (padK (bI q) 54 ++ bI m))) = M := by rw [hM, bI_strI _ (shaS_b _)]
    have HM := Lib.hid hM
    have HSM := Lib.hid hsm
    have HBM := Lib.hid hbm
    clear hM hsm hbm
    have hsd : strI (out4 (blocksS (padI (padK (bI q) 54 ++ bI m)) ((padI (padK (bI q) 54 ++ bI m)).length / 64))) = strI (shaS (padK (bI q) 54 ++ bI m)) := rfl
    rw [hsd]
    clear hsd
    generalize strI (shaS (padK (bI q) 54 ++ bI m)) = s3 at HSM HBM ⊢
    have hlim2 : ¬ 9223372036854775807 < p92.size + s3.size := by have := HS.out.2; have := HSM.out; omega
    go_wp2_with fail
    refine (specSum_walk w3 (p92 ++ s3) (by rw [ByteArray.size_append]; have := HS.out.2; have := HSM.out; omega)).mono ?_
    rintro e w4 ⟨rfl, hg4⟩
    rw [bI_app, HY.out, HBM.out]
    have HG4 := Lib.hid (grown_trans HG3.out hg4)
    clear hg4
    have hsd : strI (out4 (blocksS (padI (padK (bI q) 92 ++ M)) ((padI (padK (bI q) 92 ++ M)).length / 64))) = strI (shaS (padK (bI q) 92 ++ M)) := rfl
    rw [hsd]
    clear hsd
    go_wp2_with fail
    refine (specHex_walk w4 (strI (shaS (padK (bI q) 92 ++ M))) (by rw [strI_size, shaS_len]; decide) (by rw [strI_size, shaS_len]; decide)).mono ?_
    rintro e w5 ⟨rfl, hg5⟩
    have HG5 := Lib.hid (grown_trans HG4.out hg5)
    clear hg5
    go_wp2
    go_ret
    refine ⟨?_, HG5.out⟩
    rw [bI_strI _ (shaS_b _)]
    unfold macS
    rw [HM.out, HQ.out]
    rfl

end Go.Proofs.YtnpgdjckhkmiiaaDoor
