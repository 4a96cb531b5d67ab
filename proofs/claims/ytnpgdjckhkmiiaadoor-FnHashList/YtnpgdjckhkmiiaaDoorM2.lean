import Derived.Test.YtnpgdjckhkmiiaaDoorM1
import Derived.Deep.CutRange
import Derived.Deep.RegionWith
namespace Go.Proofs.YtnpgdjckhkmiiaaDoor
open Go.RowKit

theorem conv_row (W : World) (M : List Int) (hM : B8 M) (n : Nat) (hn : M.length = n) (g cap : Nat) (hc : ∀ j, j < n → W.cell? ⟨g, j, none⟩ = some (.int .u8 (M.getD j 0))) :
    (convert 22 9 (.slice (some ⟨g, 0, none⟩) n cap)).run Tryd.prog W = .ok (.string (strI M)) W := by
  have hcells : ∀ j (hj : j < (toB M).length), W.cell? ((⟨g, 0, none⟩ : Addr).add j) = some (.int .u8 ((toB M)[j].toNat : Int)) := fun j hj => by
    have hj' : j < M.length := by rwa [toB_len] at hj
    rw [Addr.add_mid, Nat.zero_add, toB_get M hM j hj]
    exact hc j (by omega)
  have hcv := run_convert_bytes_back (P := Tryd.prog) W 22 9 5 ⟨g, 0, none⟩ cap (toB M) Tryd.underlying22 Tryd.underlying5 Tryd.underlying9 hcells
  rw [toB_len, hn] at hcv
  exact hcv

theorem hashBytes_two (W : World) (hw : Tabs W) (a b : ByteArray) (ha : a.size ≤ 4194304) (hb : b.size ≤ 4194304) :
    Calls Tryd.prog 27 #[.slice (some ⟨W.heap.size, 0, none⟩) 2 2] (W.alloc (.cells #[.string a, .string b] 9)) fun e w' => ∃ g cap, e = .returned (.slice (some ⟨g, 0, none⟩) 32 cap) ∧ Hid (∀ j, j < 32 → w'.cell? ⟨g, j, none⟩ = some (.int .u8 ((sha (bI a ++ bI b)).getD j 0))) ∧ Hid (W.grownBy w' none) := by
  refine (hashBytes_any (W.alloc (.cells #[.string a, .string b] 9)) (hw.grown (World.grownBy_alloc W _ none)) [a, b] W.heap.size 2 (fun j hj => ?_) ?_ (by simp)).mono ?_
  · have hj' : j < 2 := hj
    have hb := Blk.new W 9 [.string a, .string b]
    obtain rfl | rfl : j = 0 ∨ j = 1 := by omega
    · exact hb.cell rfl
    · exact hb.cell rfl
  · simp [catI, bI_len]; omega
  rintro e w1 ⟨g, cap, rfl, _, hc, hg⟩
  refine ⟨g, cap, rfl, Lib.hid fun j hj => ?_, Lib.hid (grown_trans (World.grownBy_alloc W _ none) hg)⟩
  have := hc j hj
  simpa [catI] using this

theorem hashShow32 (W : World) (L : List Int) (hL : B8 L) (hl : L.length = 32) (g cap : Nat) (hc : ∀ j, j < 32 → W.cell? ⟨g, j, none⟩ = some (.int .u8 (L.getD j 0))) :
    Calls Tryd.prog 26 #[.slice (some ⟨g, 0, none⟩) 32 cap] W fun e w' => e = .returned (.string (strI (hexL L))) ∧ W.grownBy w' none := by
  have h := hashShow_walk W L hL (by omega) g cap (fun j hj => hc j (by omega)) (by omega) (by omega)
  rw [hl] at h
  exact h

/-- the key as it is laid into its block -/
def keyI (k : List Int) : List Int := if 64 < k.length then sha k else k
def macI (k m : List Int) : List Int := sha (padK (keyI k) 92 ++ sha (padK (keyI k) 54 ++ m))

set_option maxRecDepth 100000 in
set_option maxHeartbeats 1000000 in
theorem HashMac_any (w : World) (hw : Tabs w) (k m : ByteArray) (hk : k.size ≤ 4194304) (hm : m.size ≤ 4194304) :
    Calls Tryd.prog 13 #[.string k, .string m] w fun e w' => e = .returned (.string (strI (hexL (macI (bI k) (bI m))))) ∧ w.grownBy w' none := by
  have HW := Lib.hid hw
  clear hw
  go_enter Tryd.func13, Tryd.ntmps13
  go_upto_if 8 with (fail)
  go_cut [0, 8] from 9 to 12 (fun v _ wx => ∃ q : ByteArray, v = .string q ∧ q.size ≤ 64 ∧ Hid (bI q = keyI (bI k)) ∧ Hid (w.grownBy wx none))
  case first =>
    by_cases hb : (k.size : Int) > 64
    · go_wp2_with fail
      refine (hashBytes_any (w.alloc (.cells #[.string k] 9)) (HW.out.grown (World.grownBy_alloc w _ none)) [k] w.heap.size 1 (fun j hj => ?_) ?_ (by simp)).mono ?_
      · obtain rfl : j = 0 := by simpa using hj
        exact (Blk.new w 9 [.string k]).cell rfl
      · simp [catI, bI_len]; omega
      rintro e w1 ⟨g, cap, rfl, hg1, hc, hg⟩
      have hcv := conv_row w1 (sha (bI k)) (sha_b _) 32 (sha_len _) g cap (fun j hj => by have := hc j hj; simpa [catI] using this)
      have HG := Lib.hid hg
      clear hg hc
      go_wp2_with fail
      go_meet
      refine ⟨strI (sha (bI k)), rfl, by rw [strI_size, sha_len]; decide, Lib.hid ?_, Lib.hid (grown_trans (World.grownBy_alloc w _ none) HG.out)⟩
      rw [bI_strI _ (sha_b _)]
      unfold keyI
      rw [if_pos (by rw [bI_len]; omega)]
    · have hb' : (k.size : Int) ≤ 64 := by omega
      go_wp2_with fail
      go_meet
      refine ⟨k, rfl, by omega, Lib.hid ?_, Lib.hid (grown_refl _ _)⟩
      unfold keyI
      rw [if_neg (by rw [bI_len]; omega)]
  case rest =>
    obtain ⟨q, rfl, hq, HQ, HG0⟩ := hcut
    go_wp2_with fail
    refine (hashPad_walk wc q hq 54 (by decide) (by decide)).mono ?_
    rintro e w1 ⟨rfl, hg1⟩
    have HG1 := Lib.hid (grown_trans HG0.out hg1)
    clear hg1
    go_wp2_with fail
    refine (hashBytes_two w1 (HW.out.grown HG1.out) (strI (padK (bI q) 54)) m (by rw [strI_size, padK_len]; decide) hm).mono ?_
    rintro e w2 ⟨g, cap, rfl, HC, hg2⟩
    have HG2 := Lib.hid (grown_trans HG1.out hg2.out)
    have HX := Lib.hid (show bI (strI (padK (bI q) 54)) = padK (bI q) 54 from bI_strI _ (maskT_b _ (bI_b q) 54 (by decide) (by decide) 64))
    have HY := Lib.hid (show bI (strI (padK (bI q) 92)) = padK (bI q) 92 from bI_strI _ (maskT_b _ (bI_b q) 92 (by decide) (by decide) 64))
    have HP := Lib.hid (hashPad_walk · q hq 92 (by decide) (by decide))
    obtain ⟨M, hM⟩ : ∃ M, M = sha (bI (strI (padK (bI q) 54)) ++ bI m) := ⟨_, rfl⟩
    rw [← hM] at HC
    have HM8 := Lib.hid (show B8 M ∧ M.length = 32 from by rw [hM]; exact ⟨sha_b _, sha_len _⟩)
    have HM := Lib.hid hM
    have hcv0 : ∀ n, (convert 22 9 (.slice (some ⟨g, 0, none⟩) 32 cap)).run Tryd.prog (w2.drewN n) = .ok (.string (strI M)) (w2.drewN n) := fun n => conv_row _ M HM8.out.1 32 HM8.out.2 g cap HC.out
    have hcvd : (convert 22 9 (.slice (some ⟨g, 0, none⟩) 32 cap)).run Tryd.prog w2.drew = .ok (.string (strI M)) w2.drew := conv_row _ M HM8.out.1 32 HM8.out.2 g cap HC.out
    clear hM hg2
    go_wp2_with fail
    go_region_with (first
      | (go_at_call 30
         refine (HP.out _).mono ?_
         rintro e w3 ⟨rfl, hg3⟩
         have hcv1 : (convert 22 9 (.slice (some ⟨g, 0, none⟩) 32 cap)).run Tryd.prog w3 = .ok (.string (strI M)) w3 := conv_row _ M HM8.out.1 32 HM8.out.2 g cap (fun j hj => (grown_undrew hg3).cell (HC.out j hj) (by simp))
         have HG3 := Lib.hid (grown_trans HG2.out (grown_undrew hg3))
         clear hg3)
      | (go_at_call 27
         refine (hashBytes_two w3 (HW.out.grown HG3.out) (strI (padK (bI q) 92)) (strI M) ?_ ?_).mono ?_
         · rw [strI_size, padK_len]; decide
         · rw [strI_size, HM8.out.2]; decide
         rintro e w4 ⟨g4, cap4, rfl, HC4, hg4⟩
         have HG4 := Lib.hid (grown_trans HG3.out hg4.out)
         clear hg4)
      | (go_at_call 26
         refine (hashShow32 w4 _ (sha_b _) (sha_len _) g4 cap4 HC4.out).mono ?_
         rintro e w5 ⟨rfl, hg5⟩
         have HG5 := Lib.hid (grown_trans HG4.out hg5)
         clear hg5))
    all_goals
      go_wp2
      go_ret
      refine ⟨?_, HG5.out⟩
      unfold macI
      rw [HY.out, HM.out, HX.out, bI_strI _ (sha_b _), HQ.out]
      rfl

end Go.Proofs.YtnpgdjckhkmiiaaDoor
