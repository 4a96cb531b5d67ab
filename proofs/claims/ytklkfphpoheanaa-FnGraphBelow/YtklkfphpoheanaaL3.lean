/- FnGraphBelow's walk. -/
import Derived.Test.YtklkfphpoheanaaW3
import Derived.Test.YtklkfphpoheanaaW4
namespace Go.Proofs.Ytklkfphpoheanaa
open Go.RowKit

set_option maxRecDepth 100000 in
set_option maxHeartbeats 2000000 in
theorem graphBelow_walk (w : World) (ao : Option Addr) (n cap : Nat) (hcap : n ≤ cap) (hc : n = 0 ∨ ∃ ab o, ao = some ⟨ab, o, none⟩ ∧ ∀ j, j < n → ∃ x : Int, 0 ≤ x ∧ x < 256 ∧ w.cell? ⟨ab, o + j, none⟩ = some (.int .u8 x)) :
    Calls Try.prog 3 #[.slice ao n cap] w fun e w' => e = .returned (.bool true) ∧ w.grownBy w' none := by
  by_cases hn : (n : Int) > 1048576
  · clear hc
    go_enter Try.func3, Try.ntmps3
    go_wp2
    go_ret
    exact ⟨rfl, grown_refl _ _⟩
  have hn' : (n : Int) ≤ 1048576 := by omega
  have HD := Lib.hid (drawBelow_any w ao n cap (by omega) hcap hc)
  clear hn hc
  go_enter Try.func3, Try.ntmps3
  go_wp2_with fail
  refine HD.out.mono ?_
  rintro e w1 ⟨N, one, v, E, rfl, hN1, hN2, hnr, hEl, hg1⟩
  obtain ⟨bo, dap, rfl, hE⟩ := hnr.nlies
  have hEm : E.length ≤ 1048576 := by omega
  have HE := Lib.hid hE
  have HG1 := Lib.hid hg1
  obtain ⟨L, hL⟩ : ∃ L, L = outB N E one := ⟨_, rfl⟩
  have HLE := Lib.hid hL
  have hL16 : L.length ≤ 16 := by rw [hL]; exact outB_len N E one
  have hLm : L.length ≤ 1048576 := by omega
  have HI := Lib.hid (GraphBelow_any w1 N one bo dap E hE hEm)
  rw [← HLE.out] at HI
  clear hnr hE hg1 HD hL
  go_wp2_with fail
  refine HI.out.mono ?_
  rintro e w2 ⟨v1, rfl, hrow1, hg2⟩
  have HR1 := Lib.hid hrow1
  have HG2 := Lib.hid (grown_trans HG1.out hg2)
  have HE2 := Lib.hid (HE.out.kept hg2)
  have HS := Lib.hid (specBelow_any w2 N one (by omega) (by omega) bo dap E HE2.out hEm)
  rw [← HLE.out] at HS
  clear hrow1 hg2 HI HE HG1
  go_wp2_with fail
  refine HS.out.mono ?_
  rintro e w3 ⟨v2, rfl, hrow2, hg3⟩
  have HR13 := Lib.hid (HR1.out.kept hg3 (by simp))
  have HG3 := Lib.hid (grown_trans HG2.out hg3)
  have HE3 := Lib.hid (HE2.out.kept hg3)
  have HQ := Lib.hid (wsInts_same w3 L hLm _ _ v1 v2 HR13.out hrow2)
  clear hrow2 hg3 HS HE2 HG2 HR1
  go_wp2_with fail
  refine HQ.out.mono ?_
  rintro e w4 ⟨rfl, hg4⟩
  have HR14 := Lib.hid (HR13.out.kept hg4 (by simp))
  have HG4 := Lib.hid (grown_trans HG3.out hg4)
  have HE4 := Lib.hid (HE3.out.kept hg4)
  have HO := Lib.hid (GraphOrder_any w4 N bo dap E HE4.out hEm)
  clear hg4 HQ HE3 HG3 HR13
  go_wp2_with fail
  refine HO.out.mono ?_
  rintro e w5 ⟨v5, b, L5, rfl, hrow5, hos5, hg5⟩
  have HR15 := Lib.hid (HR14.out.kept hg5 (by simp))
  have HG5 := Lib.hid (grown_trans HG4.out hg5)
  have HE5 := Lib.hid (HE4.out.kept hg5)
  have HOS := Lib.hid hos5
  obtain ⟨t5, g5, c5, hv5, -⟩ := row_ints hrow5
  subst hv5
  have HSO := Lib.hid (specOrder_any w5 N (by omega) (by omega) bo dap E HE5.out hEm)
  clear hrow5 hos5 hg5 HO HE4 HG4 HR14
  go_wp2_with fail
  refine HSO.out.mono ?_
  rintro e w6 ⟨v6, b', L6, rfl, hrow6, hos6, hg6⟩
  obtain ⟨rfl, rfl⟩ := HOS.out.one hos6
  have HR16 := Lib.hid (HR15.out.kept hg6 (by simp))
  have HG6 := Lib.hid (grown_trans HG5.out hg6)
  have HE6 := Lib.hid (HE5.out.kept hg6)
  obtain ⟨tl, gl, cl, hvl, -, hta, hcc, -⟩ := row_ints HR16.out
  subst hvl
  have HTA := Lib.hid hta
  have HCC := Lib.hid hcc
  have hbb : (b != b) = false := by simp
  clear hrow6 hos6 hg6 HSO HE5 HG5 HR15 hta hcc
  go_wp2
  go_loop [11] (fun i => ∃ k : Nat, k ≤ E.length ∧ i = .int .i64 k) (fun i => E.length - (intOf i).toNat)
  case atStart => exact ⟨0, Nat.zero_le _, rfl⟩
  case round =>
    obtain ⟨k, hk, rfl⟩ := hrel
    by_cases hlt : k < E.length
    · rcases HE6.out with h00 | ⟨ab, o, rfl, hc⟩
      · omega
      obtain ⟨f, hf⟩ : ∃ f, f = (E.getD k (0, 0)).1 := ⟨_, rfl⟩
      obtain ⟨g, hg⟩ : ∃ g, g = (E.getD k (0, 0)).2 := ⟨_, rfl⟩
      have d0 := (hc k hlt).1
      have d1 := (hc k hlt).2
      rw [← hf, Nat.mul_comm] at d0
      rw [← hg, Nat.mul_comm] at d1
      have hkI : (k : Int) < E.length := by omega
      have HSH := Lib.hid (show 0 < L.length → (f = one ∨ f ∈ L) → decide (g ∈ L) = true from fun h0 h => by
        have := outB_shut N E one (by rw [← HLE.out]; exact h0) _ (mem_getD E k hlt) (by rw [← hf, ← HLE.out]; exact h)
        rw [← hg, ← HLE.out] at this
        simp [this])
      clear hf hg hc
      by_cases hL0 : L.length = 0
      · have hLI : ¬ (L.length : Int) > 0 := by omega
        go_wp2
        exact ⟨⟨k + 1, by omega, by go_num⟩, by simp [intOf]; omega⟩
      · have hLI : (0 : Int) < (L.length : Int) := by omega
        by_cases c1 : f = one
        · have c1b : (f == one) = true := by simp [c1]
          have HY := Lib.hid (HSH.out (by omega) (.inl c1))
          clear c1
          go_wp2_with (first | (go_at_call 12; (with_reducible refine (wsHas_any _ L _ gl cl (by with_unfolding_all exact HTA.out) (by with_unfolding_all exact HCC.out) hLm g).mono ?_); rw [HY.out]; rintro e w' ⟨rfl, hw⟩; have hw := hw.symm; subst hw))
          exact ⟨⟨k + 1, by omega, by go_num⟩, by simp [intOf]; omega⟩
        · have c1b : (f == one) = false := by simp [c1]
          clear c1
          cases c2 : decide (f ∈ L)
          · have C2 := Lib.hid c2
            clear c2
            go_wp2_with (first | (go_at_call 12; (with_reducible refine (wsHas_any _ L _ gl cl (by with_unfolding_all exact HTA.out) (by with_unfolding_all exact HCC.out) hLm f).mono ?_); rw [C2.out]; rintro e w' ⟨rfl, hw⟩; have hw := hw.symm; subst hw))
            exact ⟨⟨k + 1, by omega, by go_num⟩, by simp [intOf]; omega⟩
          · have C2 := Lib.hid c2
            have HY := Lib.hid (HSH.out (by omega) (.inr (of_decide_eq_true c2)))
            clear c2
            by_cases hfg : f = g
            · subst hfg
              go_wp2_with (first | (go_at_call 12; (with_reducible refine (wsHas_any _ L _ gl cl (by with_unfolding_all exact HTA.out) (by with_unfolding_all exact HCC.out) hLm f).mono ?_); rw [C2.out]; rintro e w' ⟨rfl, hw⟩; have hw := hw.symm; subst hw))
              exact ⟨⟨k + 1, by omega, by go_num⟩, by simp [intOf]; omega⟩
            · go_wp2_with (first | (go_at_call 12; (with_reducible refine (wsHas_any _ L _ gl cl (by with_unfolding_all exact HTA.out) (by with_unfolding_all exact HCC.out) hLm f).mono ?_); rw [C2.out]; rintro e w' ⟨rfl, hw⟩; have hw := hw.symm; subst hw) | (go_at_call 12; (with_reducible refine (wsHas_any _ L _ gl cl (by with_unfolding_all exact HTA.out) (by with_unfolding_all exact HCC.out) hLm g).mono ?_); rw [HY.out]; rintro e w' ⟨rfl, hw⟩; have hw := hw.symm; subst hw))
              exact ⟨⟨k + 1, by omega, by go_num⟩, by simp [intOf]; omega⟩
    · obtain rfl : k = E.length := by omega
      cases b
      · go_wp2
        go_ret
        exact ⟨rfl, HG6.out⟩
      · have HNO := Lib.hid (show decide (one ∈ L) = false from decide_eq_false (by rw [HLE.out]; exact order_noRing N E one _ HOS.out))
        by_cases hl5 : L5.length = 0
        · have hl5b : ((L5.length : Int) == 0) = true := by simp [hl5]
          go_wp2
          go_ret
          exact ⟨rfl, HG6.out⟩
        · have hl5b : ((L5.length : Int) == 0) = false := by rw [beq_eq_false_iff_ne]; omega
          go_wp2_with (first | (go_at_call 12; (with_reducible refine (wsHas_any _ L _ gl cl (by with_unfolding_all exact HTA.out) (by with_unfolding_all exact HCC.out) hLm one).mono ?_); rw [HNO.out]; rintro e w' ⟨rfl, hw⟩; have hw := hw.symm; subst hw))
          go_ret
          exact ⟨rfl, HG6.out⟩

end Go.Proofs.Ytklkfphpoheanaa
