/- The library's heap: up and down. -/
import Derived.Test.YtklkfphpoheanaaDoorM0
import Derived.Test.YtklkfphpoheanaaDoorM1
namespace Go.Proofs.YtklkfphpoheanaaDoor
open Go.RowKit

theorem ifne (hb g : Nat) (h : ¬ hb = g) : some hb ≠ some g := by simpa using h

set_option maxRecDepth 100000 in
set_option maxHeartbeats 1000000 in
theorem up_any (w : World) (hb base g cp : Nat) (L : List Int) (hL : L.length ≤ 1048576) (j : Nat) (hj : j < L.length) (hne : ¬ hb = g) (hB : Blk w hb 65 [.slice (some ⟨g, 0, none⟩) L.length cp]) (hR : Row w base (.slice (some ⟨g, 0, none⟩) L.length cp) (ints L)) (hU : UpInv L L.length j) :
    Calls Tryd.prog 47 #[.iface 67 (.pointer (some ⟨hb, 0, none⟩)), .int .i64 (j : Int)] w fun e w' => (∃ v, e = .returned v) ∧ ∃ L' : List Int, L'.Perm L ∧ HeapL L' L.length ∧ Row w' base (.slice (some ⟨g, 0, none⟩) L.length cp) (ints L') ∧ w.grownBy w' (some g) := by
  have HB := Lib.hid hB
  have HR := Lib.hid hR
  have HU := Lib.hid hU
  clear hB hR hU
  go_enter Tryd.func47, Tryd.ntmps47
  go_wp2
  go_loopw [1] (fun q wr => ∃ (k : Nat) (M : List Int), q = .int .i64 k ∧ k < L.length ∧ M.Perm L ∧ UpInv M L.length k ∧ Row wr base (.slice (some ⟨g, 0, none⟩) L.length cp) (ints M) ∧ w.grownBy wr (some g)) (fun q _ => (intOf q).toNat)
  case atStart => exact ⟨j, L, rfl, hj, List.Perm.refl _, HU.out, HR.out, grown_refl _ _⟩
  case round =>
    obtain ⟨k, M, rfl, hk, hp, hu, hr, hg⟩ := hrel
    have hlen := hp.length_eq
    have HP := Lib.hid hp
    have HU2 := Lib.hid hu
    have HR2 := Lib.hid hr
    have HG := Lib.hid hg
    have d0 : wr.cell? ⟨hb, 0, none⟩ = some (.slice (some ⟨g, 0, none⟩) L.length cp) := hg.cell (HB.out.cell rfl) (ifne _ _ hne)
    clear hp hu hr hg HU HR
    by_cases hk0 : k = 0
    · subst hk0
      go_wp2
      go_end0
      exact ⟨⟨_, rfl⟩, M, HP.out, HU2.out.stop (.inl rfl), HR2.out, HG.out⟩
    · obtain ⟨i, hi⟩ : ∃ i, i = (k - 1) / 2 := ⟨_, rfl⟩
      have e1 : ((k : Int) - 1) / 2 = (i : Int) := by omega
      have e2 : ((k : Int) - 1).tdiv 2 = (i : Int) := by rw [Int.tdiv_eq_ediv_of_nonneg (by omega)]; exact e1
      have e3 : ((i : Int) == (k : Int)) = false := by rw [beq_eq_false_iff_ne]; omega
      have hik : i < k := by omega
      have HI := Lib.hid hi
      obtain ⟨-, -, hcc, hfr, -, -⟩ := row_at HR2.out
      have mL := via_any metLess hb (some ⟨g, 0, none⟩) L.length cp wr d0
      have mS : ∀ m, (method 206 67 (.pointer (some ⟨hb, 0, none⟩)) "Swap").run Tryd.prog (wr.drewN m) = .ok (71, .slice (some ⟨g, 0, none⟩) L.length cp) (wr.drewN m) := fun m => via_any metSwap hb (some ⟨g, 0, none⟩) L.length cp (wr.drewN m) d0
      have HCC := Lib.hid hcc
      clear hi hcc hfr d0
      cases hd : decide (M.getD k 0 < M.getD i 0)
      · have HD := Lib.hid hd
        clear hd
        go_wp2_with (first | (go_at_call 69; refine (less_at _ M _ g cp hlen (by exact HCC.out) k i (by omega) (by omega) _ HD.out).mono ?_; rintro e w' ⟨rfl, m, rfl⟩))
        go_end0
        exact ⟨⟨_, rfl⟩, M, HP.out, HU2.out.stop (.inr (by have := of_decide_eq_false HD.out; rw [← HI.out]; omega)), HR2.out.drewN m, grown_drewN HG.out m⟩
      · have HD := Lib.hid hd
        clear hd
        go_wp2_with (first | (go_at_call 69; refine (less_at _ M _ g cp hlen (by exact HCC.out) k i (by omega) (by omega) _ HD.out).mono ?_; rintro e w' ⟨rfl, m, rfl⟩))
        refine (swap_at _ M _ base g cp (HR2.out.drewN m) i k (by omega) (by omega)).mono ?_
        rintro e w2 ⟨⟨v, rfl⟩, hrow, hg2⟩
        have HRW := Lib.hid hrow
        have HG2 := Lib.hid (grown_trans (grown_drewN HG.out m) hg2)
        clear hrow hg2 mL mS
        go_wp2
        refine ⟨⟨i, swapL M i k, rfl, by omega, (swapL_perm M i k (by omega) (by omega)).trans HP.out, ?_, HRW.out, HG2.out⟩, by simp [intOf]; omega⟩
        have := HU2.out.step (by omega) (by omega) hk (by have := of_decide_eq_true HD.out; rw [← HI.out]; omega)
        rw [← HI.out] at this
        exact this

set_option maxRecDepth 100000 in
set_option maxHeartbeats 1000000 in
theorem down_any (w : World) (hb base g cp : Nat) (L : List Int) (hL : L.length ≤ 1048576) (n : Nat) (hn : n ≤ L.length) (hne : ¬ hb = g) (hB : Blk w hb 65 [.slice (some ⟨g, 0, none⟩) L.length cp]) (hR : Row w base (.slice (some ⟨g, 0, none⟩) L.length cp) (ints L)) (hU : DownInv L n 0) :
    Calls Tryd.prog 48 #[.iface 67 (.pointer (some ⟨hb, 0, none⟩)), .int .i64 0, .int .i64 (n : Int)] w fun e w' => (∃ v, e = .returned v) ∧ ∃ L' : List Int, L'.Perm L ∧ HeapL L' n ∧ (∀ q, n ≤ q → L'.getD q 0 = L.getD q 0) ∧ Row w' base (.slice (some ⟨g, 0, none⟩) L.length cp) (ints L') ∧ w.grownBy w' (some g) := by
  have HB := Lib.hid hB
  have HR := Lib.hid hR
  have HU := Lib.hid hU
  clear hB hR hU
  go_enter Tryd.func48, Tryd.ntmps48
  go_wp2
  go_loopw [7] (fun q wr => ∃ (i : Nat) (M : List Int), q = .int .i64 i ∧ i ≤ 1048576 ∧ M.Perm L ∧ (∀ q, n ≤ q → M.getD q 0 = L.getD q 0) ∧ DownInv M n i ∧ Row wr base (.slice (some ⟨g, 0, none⟩) L.length cp) (ints M) ∧ w.grownBy wr (some g)) (fun q _ => n - (intOf q).toNat)
  case atStart => exact ⟨0, L, rfl, by omega, List.Perm.refl _, fun _ _ => rfl, HU.out, HR.out, grown_refl _ _⟩
  case round =>
    obtain ⟨i, M, rfl, hi, hp, hq, hu, hr, hg⟩ := hrel
    have hlen := hp.length_eq
    have HP := Lib.hid hp
    have HQ := Lib.hid hq
    have HU2 := Lib.hid hu
    have HR2 := Lib.hid hr
    have HG := Lib.hid hg
    have d0 : wr.cell? ⟨hb, 0, none⟩ = some (.slice (some ⟨g, 0, none⟩) L.length cp) := hg.cell (HB.out.cell rfl) (ifne _ _ hne)
    have HCC := Lib.hid (row_at hr).2.2.1
    obtain ⟨a, ha⟩ : ∃ a, a = 2 * i + 1 := ⟨_, rfl⟩
    have e1 : 2 * (i : Int) + 1 = (a : Int) := by omega
    have HA := Lib.hid ha
    have mL := via_any metLess hb (some ⟨g, 0, none⟩) L.length cp wr d0
    have mL2 : ∀ m, (method 206 67 (.pointer (some ⟨hb, 0, none⟩)) "Less").run Tryd.prog (wr.drewN m) = .ok (69, .slice (some ⟨g, 0, none⟩) L.length cp) (wr.drewN m) := fun m => via_any metLess hb (some ⟨g, 0, none⟩) L.length cp (wr.drewN m) d0
    have mS : ∀ m, (method 206 67 (.pointer (some ⟨hb, 0, none⟩)) "Swap").run Tryd.prog (wr.drewN m) = .ok (71, .slice (some ⟨g, 0, none⟩) L.length cp) (wr.drewN m) := fun m => via_any metSwap hb (some ⟨g, 0, none⟩) L.length cp (wr.drewN m) d0
    have hai : a = 2 * i + 1 := ha
    clear hp hq hu hr hg HU HR d0 ha
    have HAI := Lib.hid hai
    have hia : i < a := by omega
    have ham : a ≤ 4194304 := by omega
    clear hai
    by_cases han : n ≤ a
    · have hanI : (n : Int) ≤ (a : Int) := by omega
      go_wp2
      go_ret
      exact ⟨⟨_, rfl⟩, M, HP.out, HU2.out.stop (fun c c0 cn cp => by have := HAI.out; omega), HQ.out, HR2.out, HG.out⟩
    · have hanI : (a : Int) < (n : Int) := by omega
      obtain ⟨b, hbb⟩ : ∃ b, b = a + 1 := ⟨_, rfl⟩
      have e2 : (a : Int) + 1 = (b : Int) := by omega
      have HBB := Lib.hid hbb
      clear hbb
      have stopAt : ∀ j, (∀ c, 0 < c → c < n → (c - 1) / 2 = i → M.getD j 0 ≤ M.getD c 0) → ¬ M.getD j 0 < M.getD i 0 → HeapL M n := fun j hmin hno => HU2.out.stop (fun c c0 cn cp => by have := hmin c c0 cn cp; omega)
      have STOP := Lib.hid stopAt
      clear stopAt
      by_cases hbn : b < n
      · have hbnI : (b : Int) < (n : Int) := by omega
        cases hd : decide (M.getD b 0 < M.getD a 0)
        · have HD := Lib.hid hd
          clear hd
          have HMIN := Lib.hid (show ∀ c, 0 < c → c < n → (c - 1) / 2 = i → M.getD a 0 ≤ M.getD c 0 from fun c c0 cn cp => by
            have h1 := of_decide_eq_false HD.out
            have h2 := HAI.out
            have h3 := HBB.out
            obtain rfl | rfl : c = a ∨ c = b := by omega
            · exact Int.le_refl _
            · omega)
          cases hd2 : decide (M.getD a 0 < M.getD i 0)
          · have HD2 := Lib.hid hd2
            clear hd2
            go_wp2_with (first | (go_at_call 69; first | ((with_reducible refine (less_at _ M _ g cp hlen (by with_unfolding_all exact HCC.out) b a (by omega) (by omega) _ HD.out).mono ?_); rintro e w' ⟨rfl, m, rfl⟩) | ((with_reducible refine (less_at _ M _ g cp hlen (by with_unfolding_all exact HCC.out) a i (by omega) (by omega) _ HD2.out).mono ?_); rintro e w' ⟨rfl, m, rfl⟩)))
            go_ret
            exact ⟨⟨_, rfl⟩, M, HP.out, STOP.out a HMIN.out (Int.not_lt.1 (of_decide_eq_false HD2.out)), HQ.out, HR2.out.drewN _, grown_drewN HG.out _⟩
          · have HD2 := Lib.hid hd2
            clear hd2
            go_wp2_with (first | (go_at_call 69; first | ((with_reducible refine (less_at _ M _ g cp hlen (by with_unfolding_all exact HCC.out) b a (by omega) (by omega) _ HD.out).mono ?_); rintro e w' ⟨rfl, m, rfl⟩) | ((with_reducible refine (less_at _ M _ g cp hlen (by with_unfolding_all exact HCC.out) a i (by omega) (by omega) _ HD2.out).mono ?_); rintro e w' ⟨rfl, m, rfl⟩)))
            refine (swap_at _ M _ base g cp (by exact HR2.out.drewN _) i a (by omega) (by omega)).mono ?_
            rintro e w2 ⟨⟨v, rfl⟩, hrow, hg2⟩
            have HRW := Lib.hid hrow
            have HG2 := Lib.hid (grown_trans (grown_drewN HG.out _) hg2)
            clear hrow hg2 mL mS mL2
            go_wp2
            refine ⟨⟨a, swapL M i a, rfl, by omega, (swapL_perm M i a (by omega) (by omega)).trans HP.out, fun q hq => ?_, HU2.out.step (by omega) (by omega) (by omega) (by have := HAI.out; omega) HMIN.out (of_decide_eq_true HD2.out), HRW.out, HG2.out⟩, by simp [intOf]; omega⟩
            rw [swapL_get M i a q (by omega) (by omega), if_neg (by omega), if_neg (by omega)]
            exact HQ.out q hq
        · have HD := Lib.hid hd
          clear hd
          have hib : i < b := by have := HBB.out; omega
          have HMIN := Lib.hid (show ∀ c, 0 < c → c < n → (c - 1) / 2 = i → M.getD b 0 ≤ M.getD c 0 from fun c c0 cn cp => by
            have h1 := of_decide_eq_true HD.out
            have h2 := HAI.out
            have h3 := HBB.out
            obtain rfl | rfl : c = a ∨ c = b := by omega
            · omega
            · exact Int.le_refl _)
          cases hd2 : decide (M.getD b 0 < M.getD i 0)
          · have HD2 := Lib.hid hd2
            clear hd2
            go_wp2_with (first | (go_at_call 69; first | ((with_reducible refine (less_at _ M _ g cp hlen (by with_unfolding_all exact HCC.out) b a (by omega) (by omega) _ HD.out).mono ?_); rintro e w' ⟨rfl, m, rfl⟩) | ((with_reducible refine (less_at _ M _ g cp hlen (by with_unfolding_all exact HCC.out) b i (by omega) (by omega) _ HD2.out).mono ?_); rintro e w' ⟨rfl, m, rfl⟩)))
            go_ret
            exact ⟨⟨_, rfl⟩, M, HP.out, STOP.out b HMIN.out (Int.not_lt.1 (of_decide_eq_false HD2.out)), HQ.out, HR2.out.drewN _, grown_drewN HG.out _⟩
          · have HD2 := Lib.hid hd2
            clear hd2
            go_wp2_with (first | (go_at_call 69; first | ((with_reducible refine (less_at _ M _ g cp hlen (by with_unfolding_all exact HCC.out) b a (by omega) (by omega) _ HD.out).mono ?_); rintro e w' ⟨rfl, m, rfl⟩) | ((with_reducible refine (less_at _ M _ g cp hlen (by with_unfolding_all exact HCC.out) b i (by omega) (by omega) _ HD2.out).mono ?_); rintro e w' ⟨rfl, m, rfl⟩)))
            refine (swap_at _ M _ base g cp (by exact HR2.out.drewN _) i b (by omega) (by omega)).mono ?_
            rintro e w2 ⟨⟨v, rfl⟩, hrow, hg2⟩
            have HRW := Lib.hid hrow
            have HG2 := Lib.hid (grown_trans (grown_drewN HG.out _) hg2)
            clear hrow hg2 mL mS mL2
            go_wp2
            refine ⟨⟨b, swapL M i b, rfl, by omega, (swapL_perm M i b (by omega) (by omega)).trans HP.out, fun q hq => ?_, HU2.out.step (by omega) (by omega) (by omega) (by have := HAI.out; have := HBB.out; omega) HMIN.out (of_decide_eq_true HD2.out), HRW.out, HG2.out⟩, by simp [intOf]; omega⟩
            rw [swapL_get M i b q (by omega) (by omega), if_neg (by omega), if_neg (by omega)]
            exact HQ.out q hq
      · have hbnI : (n : Int) ≤ (b : Int) := by omega
        have HMIN := Lib.hid (show ∀ c, 0 < c → c < n → (c - 1) / 2 = i → M.getD a 0 ≤ M.getD c 0 from fun c c0 cn cp => by
          have h2 := HAI.out
          have h3 := HBB.out
          obtain rfl : c = a := by omega
          exact Int.le_refl _)
        cases hd2 : decide (M.getD a 0 < M.getD i 0)
        · have HD2 := Lib.hid hd2
          clear hd2
          go_wp2_with (first | (go_at_call 69; first | ((with_reducible refine (less_at _ M _ g cp hlen (by with_unfolding_all exact HCC.out) a i (by omega) (by omega) _ HD2.out).mono ?_); rintro e w' ⟨rfl, m, rfl⟩)))
          go_ret
          exact ⟨⟨_, rfl⟩, M, HP.out, STOP.out a HMIN.out (Int.not_lt.1 (of_decide_eq_false HD2.out)), HQ.out, HR2.out.drewN _, grown_drewN HG.out _⟩
        · have HD2 := Lib.hid hd2
          clear hd2
          go_wp2_with (first | (go_at_call 69; first | ((with_reducible refine (less_at _ M _ g cp hlen (by with_unfolding_all exact HCC.out) a i (by omega) (by omega) _ HD2.out).mono ?_); rintro e w' ⟨rfl, m, rfl⟩)))
          refine (swap_at _ M _ base g cp (by exact HR2.out.drewN _) i a (by omega) (by omega)).mono ?_
          rintro e w2 ⟨⟨v, rfl⟩, hrow, hg2⟩
          have HRW := Lib.hid hrow
          have HG2 := Lib.hid (grown_trans (grown_drewN HG.out _) hg2)
          clear hrow hg2 mL mS mL2
          go_wp2
          refine ⟨⟨a, swapL M i a, rfl, by omega, (swapL_perm M i a (by omega) (by omega)).trans HP.out, fun q hq => ?_, HU2.out.step (by omega) (by omega) (by omega) (by have := HAI.out; omega) HMIN.out (of_decide_eq_true HD2.out), HRW.out, HG2.out⟩, by simp [intOf]; omega⟩
          rw [swapL_get M i a q (by omega) (by omega), if_neg (by omega), if_neg (by omega)]
          exact HQ.out q hq

end Go.Proofs.YtklkfphpoheanaaDoor
