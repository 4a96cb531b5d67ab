/- The record of a piece: by the document, and by the program. -/
import Derived.Test.YtgidhfcnjboieaaDoorO1
namespace Go.Proofs.YtgidhfcnjboieaaDoor
open Go.RowKit

theorem whole_small (p : ByteArray) (h : (recT p).size ≤ 2000) : wholeB p = ((pieceT (recT p)).toList == p.toList) := by
  rw [whole_any, decide_eq_true h, Bool.true_and]
theorem whole_great (p : ByteArray) (h : ¬ (recT p).size ≤ 2000) : wholeB p = false := by
  rw [whole_any, decide_eq_false h, Bool.false_and]

set_option maxRecDepth 100000 in
set_option maxHeartbeats 4000000 in
theorem swhole_any (w : World) (p : ByteArray) (hs : p.size ≤ 1048576) : Calls Tryd.prog 31 #[.string p] w fun e w' => e = .returned (.tuple #[.string (recT p), .bool (wholeB p)]) ∧ w.grownBy w' none := by
  go_enter Tryd.func31, Tryd.ntmps31
  go_wp2
  go_loop [4] (fun i => ∃ k : Nat, k ≤ p.size ∧ i = .int .i64 k ∧ Hid (∀ j (h : j < p.size), j < k → p[j].toNat ≠ 10)) (fun i => p.size - (intOf i).toNat)
  case atStart => exact ⟨0, Nat.zero_le _, rfl, Lib.hid fun j _ h => absurd h (Nat.not_lt_zero _)⟩
  case round =>
    obtain ⟨k, hk, rfl, HA⟩ := hrel
    by_cases hlt : k < p.size
    · have hkI : (k : Int) < p.size := by omega
      obtain ⟨x, hx⟩ : ∃ x : Nat, p[k].toNat = x := ⟨_, rfl⟩
      have HX := Lib.hid hx
      by_cases c1 : (x : Int) = 10
      · have c1b : ((x : Int) == 10) = true := by rw [beq_iff_eq]; exact c1
        have hn := nl_at p k hlt (by rw [HX.out]; omega) HA.out
        have HR := Lib.hid (recT_at p k hn)
        obtain ⟨R, hR⟩ : ∃ R, p.extract (k + 1) p.size = R := ⟨_, rfl⟩
        have HRR := Lib.hid (show recT p = R from by rw [HR.out, hR])
        have hrs : R.size ≤ 1048576 := by rw [← HRR.out]; exact Nat.le_trans (recT_size p) hs
        have c4 : (k : Int) + 1 ≤ p.size := by omega
        have c5 : IntKind.i64.wrap ((k : Int) + 1) = (k : Int) + 1 := by rw [IntKind.wrap_i64]; omega
        obtain ⟨Z, hZ⟩ : ∃ Z, pieceT R = Z := ⟨_, rfl⟩
        have HC := Lib.hid ((sframe_any w R hrs).mono (R' := fun e w' => e = .returned (.string Z) ∧ w.grownBy w' none) (fun e w' q => ⟨by rw [q.1, hZ], q.2⟩))
        by_cases h2 : (R.size : Int) ≤ 2000
        · have HD := Lib.hid (show wholeB p = (Z.toList == p.toList) from by rw [whole_small p (by rw [HRR.out]; omega), HRR.out, hZ])
          clear c1 hn hZ hrs
          go_wp2_with fail
          refine HC.out.mono ?_
          rintro e w1 ⟨rfl, hg⟩
          have HG := Lib.hid hg
          clear hg HC
          go_wp2
          go_ret2
          exact ⟨by rw [HRR.out, HD.out]; rfl, HG.out⟩
        · have HD := Lib.hid (show wholeB p = false from whole_great p (by rw [HRR.out]; omega))
          clear c1 hn hZ hrs HC
          go_wp2
          go_ret2
          exact ⟨by rw [HRR.out, HD.out]; rfl, grown_refl _ _⟩
      · have c1b : ((x : Int) == 10) = false := by rw [beq_eq_false_iff_ne]; exact c1
        have HA2 := Lib.hid (show ∀ j (h : j < p.size), j < k + 1 → p[j].toNat ≠ 10 from fun j h hj => by
          by_cases e : j = k
          · subst e; rw [HX.out]; omega
          · exact HA.out j h (by omega))
        clear c1
        go_wp2
        exact ⟨⟨k + 1, by omega, by go_num, HA2⟩, by simp [intOf]; omega⟩
    · obtain rfl : k = p.size := by omega
      have hn := nl_no p (fun j h => HA.out j h h)
      have HR := Lib.hid (recT_none p hn)
      have HD := Lib.hid (show wholeB p = false from by unfold wholeB; rw [hn]; rfl)
      clear hn
      go_wp2
      go_ret2
      exact ⟨by rw [HR.out, HD.out]; rfl, grown_refl _ _⟩

set_option maxRecDepth 100000 in
set_option maxHeartbeats 8000000 in
theorem irecord_any (w : World) (hw : Tabs w) (hp : Pow w) (c : Nat) (p : ByteArray) (hs : p.size ≤ 1048576) (hc : w.cell? ⟨c, 0, none⟩ = some (.string p)) : Calls Tryd.prog 29 #[.pointer (some ⟨c, 0, none⟩)] w fun e w' => e = .returned (.tuple #[.string (recT p), .bool (wholeB p)]) ∧ w.grownBy w' none := by
  obtain ⟨R, hR⟩ : ∃ R, recT p = R := ⟨_, rfl⟩
  have hrs : R.size ≤ 1048576 := by rw [← hR]; exact Nat.le_trans (recT_size p) hs
  obtain ⟨Z, hZ⟩ : ∃ Z, pieceT R = Z := ⟨_, rfl⟩
  have HCUT := Lib.hid ((cut_any w p hs).mono (R' := fun e w' => ∃ a b, e = .returned (.tuple #[.string a, .string R, .bool b]) ∧ w.grownBy w' none) (fun e w' q => by rw [hR] at q; exact q))
  have HRR := Lib.hid hR
  have HC := Lib.hid (fun (V : World) (hV : w.grownBy V none) => (ipiece_any V (hw.grown hV) (hp.grown hV) R hrs).mono (R' := fun e w' => e = .returned (.string Z) ∧ V.grownBy w' none) (fun e w' q => ⟨by rw [q.1, hZ], q.2⟩))
  have HK := Lib.hid (fun (V : World) (hV : w.grownBy V none) => show V.cell? ⟨c, 0, none⟩ = some (.string p) from hV.cell hc (by simp))
  have HW2 := Lib.hid (fun (h : R.size ≤ 2000) => show wholeB p = (Z.toList == p.toList) from by rw [whole_small p (by rw [hR]; exact h), hR, hZ])
  have HW3 := Lib.hid (fun (h : ¬ R.size ≤ 2000) => show wholeB p = false from whole_great p (by rw [hR]; exact h))
  clear hR hrs hZ hw hp
  go_enter Tryd.func29, Tryd.ntmps29
  go_wp2_with fail
  refine HCUT.out.mono ?_
  rintro e w1 ⟨a, b, rfl, hg1⟩
  have HG1 := Lib.hid hg1
  clear hg1 HCUT hc
  go_wp2
  by_cases h2 : R.size ≤ 2000
  · have h2I : (R.size : Int) ≤ 2000 := by omega
    have HD := Lib.hid (HW2.out h2)
    refine wp_region_held_drew (S := fun w' => w.grownBy w' none ∧ w'.cell? ⟨c, 0, none⟩ = some (.string p)) (by kernel_rfl) (⟨grown_drew HG1.out, HK.out _ (grown_drew HG1.out)⟩) (fun hS => ?_)
    refine wpAnyH_take (i := 0) (oi := ⟨some 16, _, _, _, _, _⟩) (v := (.string R)) rfl (by kernel_rfl) (by kernel_rfl) (by kernel_rfl) (fun _ _ _ h => h) (Or.inl ⟨by kernel_rfl, fun w' hSw => ?_⟩) hS ?_
    · go_simp
      all_goals first | rfl | (simp [*]; done)
    simp only [Act.put, List.setIfInBounds_toArray, List.set_cons_zero, List.set_cons_succ]
    refine wpAnyH_take (i := 1) (oi := ⟨some 17, _, _, _, _, _⟩) (v := (.string R)) rfl (by kernel_rfl) (by kernel_rfl) (by kernel_rfl) (fun _ _ _ h => h) (Or.inl ⟨by kernel_rfl, fun w' hSw => ?_⟩) hS ?_
    · go_simp
      all_goals first | rfl | (simp [*]; done)
    simp only [Act.put, List.setIfInBounds_toArray, List.set_cons_zero, List.set_cons_succ]
    refine wpAnyH_take (i := 2) (oi := ⟨some 18, _, _, _, _, _⟩) (v := (.int .i64 (R.size : Int))) rfl (by kernel_rfl) (by kernel_rfl) (by kernel_rfl) (fun _ _ _ h => h) (Or.inl ⟨by kernel_rfl, fun w' hSw => ?_⟩) hS ?_
    · go_simp
      all_goals first | rfl | (simp [*]; done)
    simp only [Act.put, List.setIfInBounds_toArray, List.set_cons_zero, List.set_cons_succ]
    refine wpAnyH_take (i := 3) (oi := ⟨some 19, _, _, _, _, _⟩) (v := (.bool true)) rfl (by kernel_rfl) (by kernel_rfl) (by kernel_rfl) (fun _ _ _ h => h) (Or.inl ⟨by kernel_rfl, fun w' hSw => ?_⟩) hS ?_
    · go_simp
      all_goals first | rfl | (simp [*]; done)
    simp only [Act.put, List.setIfInBounds_toArray, List.set_cons_zero, List.set_cons_succ]
    refine wpAnyH_take (i := 4) (oi := ⟨some 20, _, _, _, _, _⟩) (v := (.bool true)) rfl (by kernel_rfl) (by kernel_rfl) (by kernel_rfl) (fun _ _ _ h => h) (Or.inl ⟨by kernel_rfl, fun w' hSw => ?_⟩) hS ?_
    · go_simp
      all_goals first | rfl | (simp [*]; done)
    simp only [Act.put, List.setIfInBounds_toArray, List.set_cons_zero, List.set_cons_succ]
    refine wpAnyH_take (i := 5) (oi := ⟨some 21, _, _, _, _, _⟩) (v := (.string R)) rfl (by kernel_rfl) (by kernel_rfl) (by kernel_rfl) (fun _ _ _ h => h) (Or.inl ⟨by kernel_rfl, fun w' hSw => ?_⟩) hS ?_
    · go_simp
      all_goals first | rfl | (simp [*]; done)
    simp only [Act.put, List.setIfInBounds_toArray, List.set_cons_zero, List.set_cons_succ]
    refine wpAnyH_take (i := 7) (oi := ⟨some 23, _, _, _, _, _⟩) (v := (.pointer (some ⟨c, 0, none⟩))) rfl (by kernel_rfl) (by kernel_rfl) (by kernel_rfl) (fun _ _ _ h => h) (Or.inl ⟨by kernel_rfl, fun w' hSw => ?_⟩) hS ?_
    · go_simp
      all_goals first | rfl | (simp [*]; done)
    simp only [Act.put, List.setIfInBounds_toArray, List.set_cons_zero, List.set_cons_succ]
    refine wpAnyH_take (i := 8) (oi := ⟨some 24, _, _, _, _, _⟩) (v := (.pointer (some ⟨c, 0, none⟩))) rfl (by kernel_rfl) (by kernel_rfl) (by kernel_rfl) (fun _ _ _ h => h) (Or.inl ⟨by kernel_rfl, fun w' hSw => ?_⟩) hS ?_
    · go_simp
      all_goals first | rfl | (simp [*]; done)
    simp only [Act.put, List.setIfInBounds_toArray, List.set_cons_zero, List.set_cons_succ]
    refine wpAnyH_take (i := 9) (oi := ⟨some 25, _, _, _, _, _⟩) (v := (.pointer (some ⟨c, 0, none⟩))) rfl (by kernel_rfl) (by kernel_rfl) (by kernel_rfl) (fun _ _ _ h => h) (Or.inl ⟨by kernel_rfl, fun w' hSw => ?_⟩) hS ?_
    · go_simp
      all_goals first | rfl | (simp [*]; done)
    simp only [Act.put, List.setIfInBounds_toArray, List.set_cons_zero, List.set_cons_succ]
    refine wpAnyH_take (i := 10) (oi := ⟨some 26, _, _, _, _, _⟩) (v := (.string p)) rfl (by kernel_rfl) (by kernel_rfl) (by kernel_rfl) (fun _ _ _ h => h) (Or.inl ⟨by kernel_rfl, fun w' hSw => ?_⟩) hS ?_
    · obtain ⟨s1, s2⟩ := hSw
      go_simp
      all_goals first | rfl | (simp [*]; done)
    simp only [Act.put, List.setIfInBounds_toArray, List.set_cons_zero, List.set_cons_succ]
    refine wpAnyH_ready (rs := [6]) (by kernel_rfl) (by simp) ?_
    refine AllReadyH.cons (o := ⟨some 22, _, _, _, _, _⟩) rfl (fun K hK => ?_) AllReadyH.nil
    go_simp
    refine (HC.out _ hS.1).mono ?_
    rintro e wa ⟨rfl, hga⟩
    go_simp
    refine hK.out _ _ ⟨grown_trans hS.1 hga, hga.cell hS.2 (by simp)⟩ (fun hS => ?_)
    clear hK
    refine wpAnyH_take (i := 11) (oi := ⟨some 27, _, _, _, _, _⟩) (v := (.bool (Z.toList == p.toList))) rfl (by kernel_rfl) (by kernel_rfl) (by kernel_rfl) (fun _ _ _ h => h) (Or.inl ⟨by kernel_rfl, fun w' hSw => ?_⟩) hS ?_
    · go_simp
      all_goals first | rfl | (simp [*]; done)
    simp only [Act.put, List.setIfInBounds_toArray, List.set_cons_zero, List.set_cons_succ]
    refine wpAnyH_take (i := 12) (oi := ⟨some 28, _, _, _, _, _⟩) (v := (.bool (Z.toList == p.toList))) rfl (by kernel_rfl) (by kernel_rfl) (by kernel_rfl) (fun _ _ _ h => h) (Or.inl ⟨by kernel_rfl, fun w' hSw => ?_⟩) hS ?_
    · go_simp
      all_goals first | rfl | (simp [*]; done)
    simp only [Act.put, List.setIfInBounds_toArray, List.set_cons_zero, List.set_cons_succ]
    refine wpAnyH_take (i := 13) (oi := ⟨some 2, _, _, _, _, _⟩) (v := (.string R)) rfl (by kernel_rfl) (by kernel_rfl) (by kernel_rfl) (fun _ _ _ h => h) (Or.inl ⟨by kernel_rfl, fun w' hSw => ?_⟩) hS ?_
    · go_simp
      all_goals first | rfl | (simp [*]; done)
    simp only [Act.put, List.setIfInBounds_toArray, List.set_cons_zero, List.set_cons_succ]
    refine wpAnyH_take (i := 14) (oi := ⟨some 3, _, _, _, _, _⟩) (v := (.bool (Z.toList == p.toList))) rfl (by kernel_rfl) (by kernel_rfl) (by kernel_rfl) (fun _ _ _ h => h) (Or.inl ⟨by kernel_rfl, fun w' hSw => ?_⟩) hS ?_
    · go_simp
      all_goals first | rfl | (simp [*]; done)
    simp only [Act.put, List.setIfInBounds_toArray, List.set_cons_zero, List.set_cons_succ]
    refine wpAnyH_done (by kernel_rfl) ?_ _
    have HGF := Lib.hid hS.1
    clear hS
    go_wp2
    go_ret2
    exact ⟨by rw [HRR.out, HD.out]; rfl, HGF.out⟩
  · have h2I : ¬ (R.size : Int) ≤ 2000 := by omega
    have h2b : decide ((R.size : Int) ≤ 2000) = false := decide_eq_false h2I
    have HD := Lib.hid (HW3.out h2)
    refine wp_region_held_drew (S := fun w' => w.grownBy w' none ∧ w'.cell? ⟨c, 0, none⟩ = some (.string p)) (by kernel_rfl) (⟨grown_drew HG1.out, HK.out _ (grown_drew HG1.out)⟩) (fun hS => ?_)
    refine wpAnyH_take (i := 0) (oi := ⟨some 16, _, _, _, _, _⟩) (v := (.string R)) rfl (by kernel_rfl) (by kernel_rfl) (by kernel_rfl) (fun _ _ _ h => h) (Or.inl ⟨by kernel_rfl, fun w' hSw => ?_⟩) hS ?_
    · go_simp
      all_goals first | rfl | (simp [*]; done)
    simp only [Act.put, List.setIfInBounds_toArray, List.set_cons_zero, List.set_cons_succ]
    refine wpAnyH_take (i := 1) (oi := ⟨some 17, _, _, _, _, _⟩) (v := (.string R)) rfl (by kernel_rfl) (by kernel_rfl) (by kernel_rfl) (fun _ _ _ h => h) (Or.inl ⟨by kernel_rfl, fun w' hSw => ?_⟩) hS ?_
    · go_simp
      all_goals first | rfl | (simp [*]; done)
    simp only [Act.put, List.setIfInBounds_toArray, List.set_cons_zero, List.set_cons_succ]
    refine wpAnyH_take (i := 2) (oi := ⟨some 18, _, _, _, _, _⟩) (v := (.int .i64 (R.size : Int))) rfl (by kernel_rfl) (by kernel_rfl) (by kernel_rfl) (fun _ _ _ h => h) (Or.inl ⟨by kernel_rfl, fun w' hSw => ?_⟩) hS ?_
    · go_simp
      all_goals first | rfl | (simp [*]; done)
    simp only [Act.put, List.setIfInBounds_toArray, List.set_cons_zero, List.set_cons_succ]
    refine wpAnyH_take (i := 3) (oi := ⟨some 19, _, _, _, _, _⟩) (v := (.bool false)) rfl (by kernel_rfl) (by kernel_rfl) (by kernel_rfl) (fun _ _ _ h => h) (Or.inl ⟨by kernel_rfl, fun w' hSw => ?_⟩) hS ?_
    · go_simp
      all_goals first | rfl | (simp [*]; done)
    simp only [Act.put, List.setIfInBounds_toArray, List.set_cons_zero, List.set_cons_succ]
    refine wpAnyH_take (i := 4) (oi := ⟨some 20, _, _, _, _, _⟩) (v := (.bool false)) rfl (by kernel_rfl) (by kernel_rfl) (by kernel_rfl) (fun _ _ _ h => h) (Or.inl ⟨by kernel_rfl, fun w' hSw => ?_⟩) hS ?_
    · go_simp
      all_goals first | rfl | (simp [*]; done)
    simp only [Act.put, List.setIfInBounds_toArray, List.set_cons_zero, List.set_cons_succ]
    refine wpAnyH_take (i := 5) (oi := ⟨some 21, _, _, _, _, _⟩) (v := undef) rfl (by kernel_rfl) (by kernel_rfl) (by kernel_rfl) (fun _ _ _ h => h) (Or.inr ⟨by kernel_rfl, rfl⟩) hS ?_
    simp only [Act.put, List.setIfInBounds_toArray, List.set_cons_zero, List.set_cons_succ]
    refine wpAnyH_take (i := 6) (oi := ⟨some 22, _, _, _, _, _⟩) (v := undef) rfl (by kernel_rfl) (by kernel_rfl) (by kernel_rfl) (fun _ _ _ h => h) (Or.inr ⟨by kernel_rfl, rfl⟩) hS ?_
    simp only [Act.put, List.setIfInBounds_toArray, List.set_cons_zero, List.set_cons_succ]
    refine wpAnyH_take (i := 7) (oi := ⟨some 23, _, _, _, _, _⟩) (v := undef) rfl (by kernel_rfl) (by kernel_rfl) (by kernel_rfl) (fun _ _ _ h => h) (Or.inr ⟨by kernel_rfl, rfl⟩) hS ?_
    simp only [Act.put, List.setIfInBounds_toArray, List.set_cons_zero, List.set_cons_succ]
    refine wpAnyH_take (i := 8) (oi := ⟨some 24, _, _, _, _, _⟩) (v := undef) rfl (by kernel_rfl) (by kernel_rfl) (by kernel_rfl) (fun _ _ _ h => h) (Or.inr ⟨by kernel_rfl, rfl⟩) hS ?_
    simp only [Act.put, List.setIfInBounds_toArray, List.set_cons_zero, List.set_cons_succ]
    refine wpAnyH_take (i := 9) (oi := ⟨some 25, _, _, _, _, _⟩) (v := undef) rfl (by kernel_rfl) (by kernel_rfl) (by kernel_rfl) (fun _ _ _ h => h) (Or.inr ⟨by kernel_rfl, rfl⟩) hS ?_
    simp only [Act.put, List.setIfInBounds_toArray, List.set_cons_zero, List.set_cons_succ]
    refine wpAnyH_take (i := 10) (oi := ⟨some 26, _, _, _, _, _⟩) (v := undef) rfl (by kernel_rfl) (by kernel_rfl) (by kernel_rfl) (fun _ _ _ h => h) (Or.inr ⟨by kernel_rfl, rfl⟩) hS ?_
    simp only [Act.put, List.setIfInBounds_toArray, List.set_cons_zero, List.set_cons_succ]
    refine wpAnyH_take (i := 11) (oi := ⟨some 27, _, _, _, _, _⟩) (v := undef) rfl (by kernel_rfl) (by kernel_rfl) (by kernel_rfl) (fun _ _ _ h => h) (Or.inr ⟨by kernel_rfl, rfl⟩) hS ?_
    simp only [Act.put, List.setIfInBounds_toArray, List.set_cons_zero, List.set_cons_succ]
    refine wpAnyH_take (i := 12) (oi := ⟨some 28, _, _, _, _, _⟩) (v := (.bool false)) rfl (by kernel_rfl) (by kernel_rfl) (by kernel_rfl) (fun _ _ _ h => h) (Or.inl ⟨by kernel_rfl, fun w' hSw => ?_⟩) hS ?_
    · go_simp
      all_goals first | rfl | (simp [*]; done)
    simp only [Act.put, List.setIfInBounds_toArray, List.set_cons_zero, List.set_cons_succ]
    refine wpAnyH_take (i := 13) (oi := ⟨some 2, _, _, _, _, _⟩) (v := (.string R)) rfl (by kernel_rfl) (by kernel_rfl) (by kernel_rfl) (fun _ _ _ h => h) (Or.inl ⟨by kernel_rfl, fun w' hSw => ?_⟩) hS ?_
    · go_simp
      all_goals first | rfl | (simp [*]; done)
    simp only [Act.put, List.setIfInBounds_toArray, List.set_cons_zero, List.set_cons_succ]
    refine wpAnyH_take (i := 14) (oi := ⟨some 3, _, _, _, _, _⟩) (v := (.bool false)) rfl (by kernel_rfl) (by kernel_rfl) (by kernel_rfl) (fun _ _ _ h => h) (Or.inl ⟨by kernel_rfl, fun w' hSw => ?_⟩) hS ?_
    · go_simp
      all_goals first | rfl | (simp [*]; done)
    simp only [Act.put, List.setIfInBounds_toArray, List.set_cons_zero, List.set_cons_succ]
    refine wpAnyH_done (by kernel_rfl) ?_ _
    have HGF := Lib.hid hS.1
    clear hS
    go_wp2
    go_ret2
    exact ⟨by rw [HRR.out, HD.out]; rfl, HGF.out⟩

theorem infoCursor : (Tryd.prog.info? 55).map (·.size) = some 2 := by kernel_rfl
set_option maxRecDepth 100000 in
set_option maxHeartbeats 2000000 in
theorem next_no (w : World) (c : Nat) (ao : Option Addr) (cap : Nat) (hc : w.cell? ⟨c, 1, none⟩ = some (.slice ao 0 cap)) : Calls Tryd.prog 28 #[.pointer (some ⟨c, 0, none⟩)] w fun e w' => e = .returned (.bool false) ∧ w' = w := by
  go_enter Tryd.func28, Tryd.ntmps28
  go_wp2
  go_ret
  exact ⟨rfl, rfl⟩
set_option maxRecDepth 100000 in
set_option maxHeartbeats 8000000 in
theorem next_more (w : World) (c g o m d : Nat) (p q : ByteArray) (hb : Blk w c 55 [.string q, .slice (some ⟨g, o, none⟩) (m + 1) (d + 1)]) (hmd : m ≤ d) (hd0 : ¬ d = 0) (hg : w.cell? ⟨g, o, none⟩ = some (.string p)) (_hne : g ≠ c) :
    Calls Tryd.prog 28 #[.pointer (some ⟨c, 0, none⟩)] w fun e w' => e = .returned (.bool true) ∧ Blk w' c 55 [.string p, .slice (some ⟨g, o + 1, none⟩) m d] ∧ w.grownBy w' (some c) := by
  have HB := Lib.hid hb
  have c0 : w.cell? ⟨c, 0, none⟩ = some (.string q) := hb.cell rfl
  have c1 : w.cell? ⟨c, 1, none⟩ = some (.slice (some ⟨g, o, none⟩) (m + 1) (d + 1)) := hb.cell rfl
  have f0 := hb.frozen 0
  have f1 := hb.frozen 1
  have hz : (((m + 1 : Nat) : Int) == 0) = false := by rw [beq_eq_false_iff_ne]; omega
  have hz2 : ((m : Int) + 1 == 0) = false := by rw [beq_eq_false_iff_ne]; omega
  have hz3 : (0 : Int) < (m : Int) + 1 := by omega
  have hz4 : (1 : Int) ≤ (m : Int) + 1 := by omega
  have hz5 : (m : Int) + 1 ≤ (d : Int) + 1 := by omega
  clear hb
  go_enter Tryd.func28, Tryd.ntmps28
  go_wp2
  go_region
  all_goals
    go_wp2
    go_ret
    refine ⟨rfl, ?_, ?_⟩
    · first
        | exact (((HB.out.set 0 (.string p)).set 1 (.slice (some ⟨g, o + 1, none⟩) m d)).drew)
        | exact (((HB.out.drew.set 0 (.string p)).set 1 (.slice (some ⟨g, o + 1, none⟩) m d)))
    · first
        | exact grown_drew (grown_set (grown_set (grown_refl w (some c)) 0 _) 1 _)
        | exact grown_drew (grown_set (grown_set (grown_refl w (some c)) 1 _) 0 _)
set_option maxRecDepth 100000 in
set_option maxHeartbeats 8000000 in
theorem next_last (w : World) (c g o : Nat) (p q : ByteArray) (hb : Blk w c 55 [.string q, .slice (some ⟨g, o, none⟩) 1 1]) (hg : w.cell? ⟨g, o, none⟩ = some (.string p)) (_hne : g ≠ c) :
    Calls Tryd.prog 28 #[.pointer (some ⟨c, 0, none⟩)] w fun e w' => e = .returned (.bool true) ∧ Blk w' c 55 [.string p, .slice (some ⟨g, o, none⟩) 0 0] ∧ w.grownBy w' (some c) := by
  have HB := Lib.hid hb
  have c0 : w.cell? ⟨c, 0, none⟩ = some (.string q) := hb.cell rfl
  have c1 : w.cell? ⟨c, 1, none⟩ = some (.slice (some ⟨g, o, none⟩) 1 1) := hb.cell rfl
  have f0 := hb.frozen 0
  have f1 := hb.frozen 1
  clear hb
  go_enter Tryd.func28, Tryd.ntmps28
  go_wp2
  go_region
  all_goals
    go_wp2
    go_ret
    refine ⟨rfl, ?_, ?_⟩
    · first
        | exact (((HB.out.set 0 (.string p)).set 1 (.slice (some ⟨g, o, none⟩) 0 0)).drew)
        | exact (((HB.out.drew.set 0 (.string p)).set 1 (.slice (some ⟨g, o, none⟩) 0 0)))
    · first
        | exact grown_drew (grown_set (grown_set (grown_refl w (some c)) 0 _) 1 _)
        | exact grown_drew (grown_set (grown_set (grown_refl w (some c)) 1 _) 0 _)
theorem next_yes (w : World) (c g o m d : Nat) (p q : ByteArray) (hb : Blk w c 55 [.string q, .slice (some ⟨g, o, none⟩) (m + 1) (d + 1)]) (hmd : m ≤ d) (hg : w.cell? ⟨g, o, none⟩ = some (.string p)) (_hne : g ≠ c) :
    Calls Tryd.prog 28 #[.pointer (some ⟨c, 0, none⟩)] w fun e w' => ∃ o', (0 < m → o' = o + 1) ∧ e = .returned (.bool true) ∧ Blk w' c 55 [.string p, .slice (some ⟨g, o', none⟩) m d] ∧ w.grownBy w' (some c) := by
  by_cases hd : d = 0
  · subst hd
    obtain rfl : m = 0 := by omega
    exact (next_last w c g o p q hb hg _hne).mono fun e w' q => ⟨o, fun h => absurd h (Nat.lt_irrefl 0), q⟩
  · exact (next_more w c g o m d p q hb hmd hd hg _hne).mono fun e w' q => ⟨o + 1, fun _ => rfl, q⟩
end Go.Proofs.YtgidhfcnjboieaaDoor
