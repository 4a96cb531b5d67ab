import Derived.Test.YtecekbhkombnnaaGreatDoorXM1
import Derived.Deep.CutRange
import Derived.Deep.RegionWith
namespace Go.Proofs.YtecekbhkombnnaaGreatDoor
open Go.RowKit

theorem conv_row (W : World) (M : List Int) (hM : B8 M) (n : Nat) (hn : M.length = n) (g cap : Nat) (hc : ∀ j, j < n → W.cell? ⟨g, j, none⟩ = some (.int .u8 (M.getD j 0))) :
    (convert 65 9 (.slice (some ⟨g, 0, none⟩) n cap)).run Tryz.prog W = .ok (.string (strI M)) W := by
  have hcells : ∀ j (hj : j < (toB M).length), W.cell? ((⟨g, 0, none⟩ : Addr).add j) = some (.int .u8 ((toB M)[j].toNat : Int)) := fun j hj => by
    have hj' : j < M.length := by rwa [toB_len] at hj
    rw [Addr.add_mid, Nat.zero_add, toB_get M hM j hj]
    exact hc j (by omega)
  have hcv := run_convert_bytes_back (P := Tryz.prog) W 65 9 5 ⟨g, 0, none⟩ cap (toB M) Tryz.underlying65 Tryz.underlying5 Tryz.underlying9 hcells
  rw [toB_len, hn] at hcv
  exact hcv

theorem hashBytes_two (W : World) (hw : Tabs W) (a b : ByteArray) (ha : a.size ≤ 4194304) (hb : b.size ≤ 4194304) :
    Calls Tryz.prog 60 #[.slice (some ⟨W.heap.size, 0, none⟩) 2 2] (W.alloc (.cells #[.string a, .string b] 9)) fun e w' => ∃ g cap, e = .returned (.slice (some ⟨g, 0, none⟩) 32 cap) ∧ Hid (∀ j, j < 32 → w'.cell? ⟨g, j, none⟩ = some (.int .u8 ((sha (bI a ++ bI b)).getD j 0))) ∧ Hid (W.grownBy w' none) := by
  refine (hashBytes_any (W.alloc (.cells #[.string a, .string b] 9)) (hw.grown (World.grownBy_alloc W _ none)) [a, b] W.heap.size 2 (fun j hj => ?_) ?_ (by simp)).mono ?_
  · have hj' : j < 2 := hj
    have hb := Blk.new W 9 [.string a, .string b]
    obtain rfl | rfl : j = 0 ∨ j = 1 := by omega
    · exact hb.cell rfl
    · exact hb.cell rfl
  · simp [catI, bI_len]; omega
  rintro e w1 ⟨g, cap, rfl, _, hc, hg⟩
  refine ⟨g, cap, rfl, Lib.hid fun j hj => ?_, Lib.hid (grown_trans (World.grownBy_alloc W _ none) hg)⟩
  have := hc j hj
  simpa [catI] using this

theorem hashShow32 (W : World) (L : List Int) (hL : B8 L) (hl : L.length = 32) (g cap : Nat) (hc : ∀ j, j < 32 → W.cell? ⟨g, j, none⟩ = some (.int .u8 (L.getD j 0))) :
    Calls Tryz.prog 62 #[.slice (some ⟨g, 0, none⟩) 32 cap] W fun e w' => e = .returned (.string (strI (hexL L))) ∧ W.grownBy w' none := by
  have h := hashShow_walk W L hL (by omega) g cap (fun j hj => hc j (by omega)) (by omega) (by omega)
  rw [hl] at h
  exact h

/-- the key as it is laid into its block -/
def keyI (k : List Int) : List Int := if 64 < k.length then sha k else k
def macI (k m : List Int) : List Int := sha (padK (keyI k) 92 ++ sha (padK (keyI k) 54 ++ m))

set_option maxRecDepth 100000 in
set_option maxHeartbeats 1000000 in
theorem HashMac_any (w : World) (hw : Tabs w) (k m : ByteArray) (hk : k.size ≤ 4194304) (hm : m.size ≤ 4194304) :
    Calls Tryz.prog 29 #[.string k, .string m] w fun e w' => e = .returned (.string (strI (hexL (macI (bI k) (bI m))))) ∧ w.grownBy w' none := by
  have HW := Lib.hid hw
  clear hw
  go_enter Tryz.func29, Tryz.ntmps29
  go_upto_if 8 with (fail)
  go_cut [0, 8] from 9 to 12 (fun v _ wx => ∃ q : ByteArray, v = .string q ∧ q.size ≤ 64 ∧ Hid (bI q = keyI (bI k)) ∧ Hid (w.grownBy wx none))
  case first =>
    by_cases hb : (k.size : Int) > 64
    · go_wp2_with fail
      refine (hashBytes_any (w.alloc (.cells #[.string k] 9)) (HW.out.grown (World.grownBy_alloc w _ none)) [k] w.heap.size 1 (fun j hj => ?_) ?_ (by simp)).mono ?_
      · obtain rfl : j = 0 := by simpa using hj
        exact (Blk.new w 9 [.string k]).cell rfl
      · simp [catI, bI_len]; omega
      rintro e w1 ⟨g, cap, rfl, hg1, hc, hg⟩
      have hcv := conv_row w1 (sha (bI k)) (sha_b _) 32 (sha_len _) g cap (fun j hj => by have := hc j hj; simpa [catI] using this)
      have HG := Lib.hid hg
      clear hg hc
      go_wp2_with fail
      go_meet
      refine ⟨strI (sha (bI k)), rfl, by rw [strI_size, sha_len]; decide, Lib.hid ?_, Lib.hid (grown_trans (World.grownBy_alloc w _ none) HG.out)⟩
      rw [bI_strI _ (sha_b _)]
      unfold keyI
      rw [if_pos (by rw [bI_len]; omega)]
    · have hb' : (k.size : Int) ≤ 64 := by omega
      go_wp2_with fail
      go_meet
      refine ⟨k, rfl, by omega, Lib.hid ?_, Lib.hid (grown_refl _ _)⟩
      unfold keyI
      rw [if_neg (by rw [bI_len]; omega)]
  case rest =>
    obtain ⟨q, rfl, hq, HQ, HG0⟩ := hcut
    go_wp2_with fail
    refine (hashPad_walk wc q hq 54 (by decide) (by decide)).mono ?_
    rintro e w1 ⟨rfl, hg1⟩
    have HG1 := Lib.hid (grown_trans HG0.out hg1)
    clear hg1
    go_wp2_with fail
    refine (hashBytes_two w1 (HW.out.grown HG1.out) (strI (padK (bI q) 54)) m (by rw [strI_size, padK_len]; decide) hm).mono ?_
    rintro e w2 ⟨g, cap, rfl, HC, hg2⟩
    have HG2 := Lib.hid (grown_trans HG1.out hg2.out)
    have HX := Lib.hid (show bI (strI (padK (bI q) 54)) = padK (bI q) 54 from bI_strI _ (maskT_b _ (bI_b q) 54 (by decide) (by decide) 64))
    have HY := Lib.hid (show bI (strI (padK (bI q) 92)) = padK (bI q) 92 from bI_strI _ (maskT_b _ (bI_b q) 92 (by decide) (by decide) 64))
    have HP := Lib.hid (hashPad_walk · q hq 92 (by decide) (by decide))
    obtain ⟨M, hM⟩ : ∃ M, M = sha (bI (strI (padK (bI q) 54)) ++ bI m) := ⟨_, rfl⟩
    rw [← hM] at HC
    have HM8 := Lib.hid (show B8 M ∧ M.length = 32 from by rw [hM]; exact ⟨sha_b _, sha_len _⟩)
    have HM := Lib.hid hM
    have hcv0 : ∀ n, (convert 65 9 (.slice (some ⟨g, 0, none⟩) 32 cap)).run Tryz.prog (w2.drewN n) = .ok (.string (strI M)) (w2.drewN n) := fun n => conv_row _ M HM8.out.1 32 HM8.out.2 g cap HC.out
    have hcvd : (convert 65 9 (.slice (some ⟨g, 0, none⟩) 32 cap)).run Tryz.prog w2.drew = .ok (.string (strI M)) w2.drew := conv_row _ M HM8.out.1 32 HM8.out.2 g cap HC.out
    clear hM hg2
    go_wp2_with fail
    go_region_with (first
      | (go_at_call 61
         refine (HP.out _).mono ?_
         rintro e w3 ⟨rfl, hg3⟩
         have hcv1 : (convert 65 9 (.slice (some ⟨g, 0, none⟩) 32 cap)).run Tryz.prog w3 = .ok (.string (strI M)) w3 := conv_row _ M HM8.out.1 32 HM8.out.2 g cap (fun j hj => (grown_undrew hg3).cell (HC.out j hj) (by simp))
         have HG3 := Lib.hid (grown_trans HG2.out (grown_undrew hg3))
         clear hg3)
      | (go_at_call 60
         refine (hashBytes_two w3 (HW.out.grown HG3.out) (strI (padK (bI q) 92)) (strI M) ?_ ?_).mono ?_
         · rw [strI_size, padK_len]; decide
         · rw [strI_size, HM8.out.2]; decide
         rintro e w4 ⟨g4, cap4, rfl, HC4, hg4⟩
         have HG4 := Lib.hid (grown_trans HG3.out hg4.out)
         clear hg4)
      | (go_at_call 62
         refine (hashShow32 w4 _ (sha_b _) (sha_len _) g4 cap4 HC4.out).mono ?_
         rintro e w5 ⟨rfl, hg5⟩
         have HG5 := Lib.hid (grown_trans HG4.out hg5)
         clear hg5))
    all_goals
      go_wp2
      go_ret
      refine ⟨?_, HG5.out⟩
      unfold macI
      rw [HY.out, HM.out, HX.out, bI_strI _ (sha_b _), HQ.out]
      rfl

end Go.Proofs.YtecekbhkombnnaaGreatDoor

namespace Go.Proofs.YtecekbhkombnnaaGreatDoor
open Go.RowKit

/-- the key as the document's model lays it into its block -/
def keyS (k : List Int) : List Int := if 64 < k.length then shaS k else k
def macS (k m : List Int) : List Int := shaS (padK (keyS k) 92 ++ shaS (padK (keyS k) 54 ++ m))
theorem shaS_b (m : List Int) : B8 (shaS m) := out4_b _
theorem bI_app (a b : ByteArray) : bI (a ++ b) = bI a ++ bI b := by simp [bI]

set_option maxRecDepth 100000 in
set_option maxHeartbeats 1000000 in
theorem specHashMac_any (w : World) (k m : ByteArray) (hk : k.size ≤ 4194304) (hm : m.size ≤ 4194240) :
    Calls Tryz.prog 23 #[.string k, .string m] w fun e w' => e = .returned (.string (strI (hexL (macS (bI k) (bI m))))) ∧ w.grownBy w' none := by
  go_enter Tryz.func23, Tryz.ntmps23
  go_upto_if 9 with (fail)
  go_cut [5, 9] from 10 to 11 (fun v _ wx => ∃ q : ByteArray, v = .string q ∧ q.size ≤ 64 ∧ Hid (bI q = keyS (bI k)) ∧ Hid (w.grownBy wx none))
  case first =>
    by_cases hb : (k.size : Int) > 64
    · go_wp2_with fail
      refine (specSum_walk w k hk).mono ?_
      rintro e w1 ⟨rfl, hg⟩
      have HG := Lib.hid hg
      clear hg
      go_wp2_with fail
      go_meet
      refine ⟨strI (shaS (bI k)), rfl, by rw [strI_size, shaS_len]; decide, Lib.hid ?_, HG⟩
      rw [bI_strI _ (shaS_b _)]
      unfold keyS
      rw [if_pos (by rw [bI_len]; omega)]
    · have hb' : (k.size : Int) ≤ 64 := by omega
      go_wp2_with fail
      go_meet
      refine ⟨k, rfl, by omega, Lib.hid ?_, Lib.hid (grown_refl _ _)⟩
      unfold keyS
      rw [if_neg (by rw [bI_len]; omega)]
  case rest =>
    obtain ⟨q, rfl, hq, HQ, HG0⟩ := hcut
    have HX := Lib.hid (show bI (strI (padK (bI q) 54)) = padK (bI q) 54 from bI_strI _ (maskT_b _ (bI_b q) 54 (by decide) (by decide) 64))
    have HY := Lib.hid (show bI (strI (padK (bI q) 92)) = padK (bI q) 92 from bI_strI _ (maskT_b _ (bI_b q) 92 (by decide) (by decide) 64))
    have HS := Lib.hid (show (strI (padK (bI q) 54)).size = 64 ∧ (strI (padK (bI q) 92)).size = 64 from ⟨by rw [strI_size, padK_len], by rw [strI_size, padK_len]⟩)
    go_wp2_with fail
    refine (specPad_walk wc q hq 92 (by decide) (by decide)).mono ?_
    rintro e w1 ⟨rfl, hg1⟩
    have HG1 := Lib.hid (grown_trans HG0.out hg1)
    clear hg1
    generalize strI (padK (bI q) 92) = p92 at HY HS ⊢
    go_wp2_with fail
    refine (specPad_walk w1 q hq 54 (by decide) (by decide)).mono ?_
    rintro e w2 ⟨rfl, hg2⟩
    have HG2 := Lib.hid (grown_trans HG1.out hg2)
    clear hg2
    generalize strI (padK (bI q) 54) = p54 at HX HS ⊢
    have hlim : ¬ 9223372036854775807 < p54.size + m.size := by have := HS.out.1; omega
    go_wp2_with fail
    refine (specSum_walk w2 (p54 ++ m) (by rw [ByteArray.size_append]; have := HS.out.1; omega)).mono ?_
    rintro e w3 ⟨rfl, hg3⟩
    rw [bI_app, HX.out]
    have HG3 := Lib.hid (grown_trans HG2.out hg3)
    clear hg3
    obtain ⟨M, hM⟩ : ∃ M, M = shaS (padK (bI q) 54 ++ bI m) := ⟨_, rfl⟩
    have hsm : (strI (shaS (padK (bI q) 54 ++ bI m))).size = 32 := by rw [strI_size, shaS_len]
    have hbm : bI (strI (shaS (padK (bI q) 54 ++ bI m))) = M := by rw [hM, bI_strI _ (shaS_b _)]
    have HM := Lib.hid hM
    have HSM := Lib.hid hsm
    have HBM := Lib.hid hbm
    clear hM hsm hbm
    have hsd : strI (out4 (blocksS (padI (padK (bI q) 54 ++ bI m)) ((padI (padK (bI q) 54 ++ bI m)).length / 64))) = strI (shaS (padK (bI q) 54 ++ bI m)) := rfl
    rw [hsd]
    clear hsd
    generalize strI (shaS (padK (bI q) 54 ++ bI m)) = s3 at HSM HBM ⊢
    have hlim2 : ¬ 9223372036854775807 < p92.size + s3.size := by have := HS.out.2; have := HSM.out; omega
    go_wp2_with fail
    refine (specSum_walk w3 (p92 ++ s3) (by rw [ByteArray.size_append]; have := HS.out.2; have := HSM.out; omega)).mono ?_
    rintro e w4 ⟨rfl, hg4⟩
    rw [bI_app, HY.out, HBM.out]
    have HG4 := Lib.hid (grown_trans HG3.out hg4)
    clear hg4
    have hsd : strI (out4 (blocksS (padI (padK (bI q) 92 ++ M)) ((padI (padK (bI q) 92 ++ M)).length / 64))) = strI (shaS (padK (bI q) 92 ++ M)) := rfl
    rw [hsd]
    clear hsd
    go_wp2_with fail
    refine (specHex_walk w4 (strI (shaS (padK (bI q) 92 ++ M))) (by rw [strI_size, shaS_len]; decide) (by rw [strI_size, shaS_len]; decide)).mono ?_
    rintro e w5 ⟨rfl, hg5⟩
    have HG5 := Lib.hid (grown_trans HG4.out hg5)
    clear hg5
    go_wp2
    go_ret
    refine ⟨?_, HG5.out⟩
    rw [bI_strI _ (shaS_b _)]
    unfold macS
    rw [HM.out, HQ.out]
    rfl

end Go.Proofs.YtecekbhkombnnaaGreatDoor

namespace Go.Proofs.YtecekbhkombnnaaGreatDoor
open Go.RowKit

theorem B8.app {a b : List Int} (ha : B8 a) (hb : B8 b) : B8 (a ++ b) := fun x hx => by
  rcases List.mem_append.1 hx with h | h
  · exact ha x h
  · exact hb x h
theorem key_same (k : List Int) (hk : B8 k) : keyS k = keyI k := by unfold keyS keyI; rw [sha_same k hk]
theorem key_b (k : List Int) (hk : B8 k) : B8 (keyI k) := by
  unfold keyI; split
  · exact sha_b k
  · exact hk
theorem mac_same (k m : List Int) (hk : B8 k) (hm : B8 m) : macS k m = macI k m := by
  have h5 : B8 (padK (keyI k) 54) := maskT_b _ (key_b k hk) 54 (by decide) (by decide) 64
  have h9 : B8 (padK (keyI k) 92) := maskT_b _ (key_b k hk) 92 (by decide) (by decide) 64
  unfold macS macI
  rw [key_same k hk, sha_same _ (B8.app h5 hm), sha_same _ (B8.app h9 (sha_b _))]

end Go.Proofs.YtecekbhkombnnaaGreatDoor
