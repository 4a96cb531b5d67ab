/- A request, written by the program: kind by kind. -/
import Derived.Test.YtecekbhkombnnaaDoorW3
namespace Go.Proofs.YtecekbhkombnnaaDoor
open Go.RowKit


set_option maxRecDepth 100000 in
set_option maxHeartbeats 8000000 in
theorem iwrite_1 (w : World) (hP : Pow w) (tn us sp : ByteArray) (run num : Nat) (tx : ByteArray) (h1 : tn.size ≤ 1048576) (h2 : us.size ≤ 1048576) (h3 : sp.size ≤ 1048576) (h4 : tx.size ≤ 1048576) (hp : ReqP 1 tn us sp run num tx) :
    Calls Tryd.prog 31 #[.agg #[.int .i64 1, .string tn, .string us, .string sp, .int .i64 (run : Int), .int .i64 (num : Int), .string tx]] w fun e w' => e = .returned (.string (writeT 1 tn us sp run num tx)) ∧ w.grownBy w' none := by
  have hrun : run < 4611686018427387904 := by have := hp.2.2.2.2.1.2; omega
  have hnum : num < 4611686018427387904 := by have := hp.2.2.2.2.2.1.2; omega
  obtain ⟨W, hW⟩ : ∃ W, w.alloc (Obj.cells #[Value.int .i64 1, .string tn, .string us, .string sp, .int .i64 (run : Int), .int .i64 (num : Int), .string tx] 31) = W := ⟨_, rfl⟩
  obtain ⟨B, hB⟩ : ∃ B, B = w.heap.size := ⟨_, rfl⟩
  have HB := Lib.hid (show Blk W B 31 [.int .i64 1, .string tn, .string us, .string sp, .int .i64 (run : Int), .int .i64 (num : Int), .string tx] from by rw [← hW, hB]; exact Blk.new w 31 _)
  have HG := Lib.hid (show w.grownBy W none from by rw [← hW]; exact grown_alloc (grown_refl _ _) _)
  have HW := Lib.hid hW
  have HBE := Lib.hid hB
  have HRQ := Lib.hid ((ireq_any W 1 tn us sp run num tx h1 h2 h3 h4).mono (R' := fun e w' => e = .returned (.bool true) ∧ W.grownBy w' none) (fun e w' q => ⟨q.1.is_yes hp, q.2⟩))
  have z1 : (wordT tn).size ≤ 7 := wordT_size tn hp.1
  have z2 : (wordT us).size ≤ 7 := wordT_size us hp.2.1
  have z3 : (wordT sp).size ≤ 7 := wordT_size sp hp.2.2.1
  have z4 : (decS run).size ≤ 21 := decS_size run hrun
  have z5 : (decS num).size ≤ 21 := decS_size num hnum
  have HJW := Lib.hid (joinT_write 1 tn us sp run num tx)
  have HLN := Lib.hid (show (Lib.join ((kindW 1 :: [wordT tn, wordT us, wordT sp, decS run, decS num, tx]).map (·.data.toList)) [32]).length ≤ 140737488355328 from by
    have s7 : (kindW 1).size ≤ 7 := kindW_size 1 (by decide)
    simp [Lib.join]
    omega)
  obtain ⟨T1, hT1⟩ : ∃ K, wordT tn = K := ⟨_, rfl⟩
  obtain ⟨T2, hT2⟩ : ∃ K, wordT us = K := ⟨_, rfl⟩
  obtain ⟨T3, hT3⟩ : ∃ K, wordT sp = K := ⟨_, rfl⟩
  obtain ⟨D1, hD1⟩ : ∃ K, decS run = K := ⟨_, rfl⟩
  obtain ⟨D2, hD2⟩ : ∃ K, decS num = K := ⟨_, rfl⟩
  have HALL := Lib.hid (fun (V : World) (hV : w.grownBy V none ∧ W.grownBy V none) => show w.grownBy V none ∧ V.cell? ⟨B, 0, none⟩ = some (.int .i64 1) ∧ V.cell? ⟨B, 1, none⟩ = some (.string tn) ∧ V.cell? ⟨B, 2, none⟩ = some (.string us) ∧ V.cell? ⟨B, 3, none⟩ = some (.string sp) ∧ V.cell? ⟨B, 4, none⟩ = some (.int .i64 (run : Int)) ∧ V.cell? ⟨B, 5, none⟩ = some (.int .i64 (num : Int)) ∧ V.cell? ⟨B, 6, none⟩ = some (.string tx) from ⟨hV.1, hV.2.cell (HB.out.cell rfl) (by simp), hV.2.cell (HB.out.cell rfl) (by simp), hV.2.cell (HB.out.cell rfl) (by simp), hV.2.cell (HB.out.cell rfl) (by simp), hV.2.cell (HB.out.cell rfl) (by simp), hV.2.cell (HB.out.cell rfl) (by simp), hV.2.cell (HB.out.cell rfl) (by simp)⟩)
  have HPW := Lib.hid (fun (V : World) (hV : w.grownBy V none) => hP.grown hV)
  have HC1 := Lib.hid (fun (V : World) => (iword_any V tn).mono (R' := fun e w' => e = .returned (.string T1) ∧ w' = V) (fun e w' q => ⟨by rw [q.1, hT1], q.2⟩))
  have HC2 := Lib.hid (fun (V : World) => (iword_any V us).mono (R' := fun e w' => e = .returned (.string T2) ∧ w' = V) (fun e w' q => ⟨by rw [q.1, hT2], q.2⟩))
  have HC3 := Lib.hid (fun (V : World) => (iword_any V sp).mono (R' := fun e w' => e = .returned (.string T3) ∧ w' = V) (fun e w' q => ⟨by rw [q.1, hT3], q.2⟩))
  have HC4 := Lib.hid (fun (V : World) (hV : w.grownBy V none) => (itoa_nat run (by omega) V (HPW.out V hV)).mono (R' := fun e w' => e = .returned (.string D1) ∧ V.grownBy w' none) (fun e w' q => ⟨by rw [q.1, hD1], q.2⟩))
  have HC5 := Lib.hid (fun (V : World) (hV : w.grownBy V none) => (itoa_nat num (by omega) V (HPW.out V hV)).mono (R' := fun e w' => e = .returned (.string D2) ∧ V.grownBy w' none) (fun e w' q => ⟨by rw [q.1, hD2], q.2⟩))
  have HKL := Lib.hid (fun (V : World) => ikinds_any V)
  rw [hT1, hT2, hT3, hD1, hD2] at HJW HLN
  have HLI := Lib.hid (fun (V : World) (g : Nat) (hg : At V ⟨g, 0, none⟩ [T1, T2, T3, D1, D2, tx]) => (line_any V (kindW 1) g 0 6 [T1, T2, T3, D1, D2, tx] hg (by simp) HLN.out).mono (R' := fun e w' => e = .returned (.string (writeT 1 tn us sp run num tx)) ∧ V.grownBy w' none) (fun e w' q => ⟨by rw [q.1, HJW.out], q.2⟩))
  clear hp hP hW hB h1 h2 h3 h4 hT1 hT2 hT3 hD1 hD2 z1 z2 z3 z4 z5 hrun hnum HJW HLN
  go_enter Tryd.func31, Tryd.ntmps31
  go_wp2_with fail
  rw [HW.out]
  refine HRQ.out.mono ?_
  rintro e w1 ⟨rfl, hg1⟩
  have HG1 := Lib.hid (grown_trans HG.out hg1)
  have HX1 := Lib.hid hg1
  clear hg1 HRQ
  go_wp2
  rw [← HBE.out]
  refine wp_region_held_drew (S := fun w' => w.grownBy w' none ∧ w'.cell? ⟨B, 0, none⟩ = some (.int .i64 1) ∧ w'.cell? ⟨B, 1, none⟩ = some (.string tn) ∧ w'.cell? ⟨B, 2, none⟩ = some (.string us) ∧ w'.cell? ⟨B, 3, none⟩ = some (.string sp) ∧ w'.cell? ⟨B, 4, none⟩ = some (.int .i64 (run : Int)) ∧ w'.cell? ⟨B, 5, none⟩ = some (.int .i64 (num : Int)) ∧ w'.cell? ⟨B, 6, none⟩ = some (.string tx)) (by kernel_rfl) (HALL.out _ ⟨grown_drew HG1.out, grown_drew HX1.out⟩) (fun hS => ?_)
  refine wpAnyH_take (i := 1) (oi := ⟨some 8, _, _, _, _, _⟩) (v := (.pointer (some ⟨B, 0, none⟩))) rfl (by kernel_rfl) (by kernel_rfl) (by kernel_rfl) (fun _ _ _ h => h) (Or.inl ⟨by kernel_rfl, fun w' hSw => ?_⟩) hS ?_
  · go_simp
    all_goals first | rfl | (simp [*]; done) | (simp [kindsC]; done) | kernel_rfl
  simp only [Act.put, List.setIfInBounds_toArray, List.set_cons_zero, List.set_cons_succ]
  refine wpAnyH_take (i := 2) (oi := ⟨some 9, _, _, _, _, _⟩) (v := (.int .i64 1)) rfl (by kernel_rfl) (by kernel_rfl) (by kernel_rfl) (fun _ _ _ h => h) (Or.inl ⟨by kernel_rfl, fun w' hSw => ?_⟩) hS ?_
  · obtain ⟨s1, s2, s3, s4, s5, s6, s7, s8⟩ := hSw
    go_simp
    all_goals first | rfl | (simp [*]; done) | (simp [kindsC]; done) | kernel_rfl
  simp only [Act.put, List.setIfInBounds_toArray, List.set_cons_zero, List.set_cons_succ]
  refine wpAnyH_ready (rs := [0]) (by kernel_rfl) (by simp) ?_
  refine AllReadyH.cons (o := ⟨some 7, _, _, _, _, _⟩) rfl (fun K hK => ?_) AllReadyH.nil
  go_simp
  refine (HKL.out _).mono ?_
  rintro e wa ⟨rfl, hga⟩
  go_simp
  refine hK.out _ _ ⟨grown_trans hS.1 hga, hga.cell hS.2.1 (by simp), hga.cell hS.2.2.1 (by simp), hga.cell hS.2.2.2.1 (by simp), hga.cell hS.2.2.2.2.1 (by simp), hga.cell hS.2.2.2.2.2.1 (by simp), hga.cell hS.2.2.2.2.2.2.1 (by simp), hga.cell hS.2.2.2.2.2.2.2 (by simp)⟩ (fun hS => ?_)
  clear hK
  refine wpAnyH_take (i := 3) (oi := ⟨some 10, _, _, _, _, _⟩) (v := (.func (.func 60) #[.string ⟨#[116, 105, 99, 107]⟩] #[])) rfl (by kernel_rfl) (by kernel_rfl) (by kernel_rfl) (fun _ _ _ h => h) (Or.inl ⟨by kernel_rfl, fun w' hSw => ?_⟩) hS ?_
  · go_simp
    all_goals first | rfl | (simp [*]; done) | (simp [kindsC]; done) | kernel_rfl
  simp only [Act.put, List.setIfInBounds_toArray, List.set_cons_zero, List.set_cons_succ]
  refine wpAnyH_take (i := 4) (oi := ⟨some 3, _, _, _, _, _⟩) (v := (.func (.func 60) #[.string ⟨#[116, 105, 99, 107]⟩] #[])) rfl (by kernel_rfl) (by kernel_rfl) (by kernel_rfl) (fun _ _ _ h => h) (Or.inl ⟨by kernel_rfl, fun w' hSw => ?_⟩) hS ?_
  · go_simp
    all_goals first | rfl | (simp [*]; done) | (simp [kindsC]; done) | kernel_rfl
  simp only [Act.put, List.setIfInBounds_toArray, List.set_cons_zero, List.set_cons_succ]
  refine wpAnyH_done (by kernel_rfl) ?_ _
  have HS3 := Lib.hid hS
  go_wp2
  refine wp_region_held_drew (S := fun w' => w.grownBy w' none ∧ w'.cell? ⟨B, 0, none⟩ = some (.int .i64 1) ∧ w'.cell? ⟨B, 1, none⟩ = some (.string tn) ∧ w'.cell? ⟨B, 2, none⟩ = some (.string us) ∧ w'.cell? ⟨B, 3, none⟩ = some (.string sp) ∧ w'.cell? ⟨B, 4, none⟩ = some (.int .i64 (run : Int)) ∧ w'.cell? ⟨B, 5, none⟩ = some (.int .i64 (num : Int)) ∧ w'.cell? ⟨B, 6, none⟩ = some (.string tx)) (by kernel_rfl) (⟨grown_drew HS3.out.1, HS3.out.2⟩) (fun hS => ?_)
  refine wpAnyH_take (i := 0) (oi := ⟨some 11, _, _, _, _, _⟩) (v := (.func (.func 60) #[.string ⟨#[116, 105, 99, 107]⟩] #[])) rfl (by kernel_rfl) (by kernel_rfl) (by kernel_rfl) (fun _ _ _ h => h) (Or.inl ⟨by kernel_rfl, fun w' hSw => ?_⟩) hS ?_
  · go_simp
    all_goals first | rfl | (simp [*]; done)
  simp only [Act.put, List.setIfInBounds_toArray, List.set_cons_zero, List.set_cons_succ]
  refine wpAnyH_take (i := 1) (oi := ⟨some 12, _, _, _, _, _⟩) (v := (.pointer (some ⟨B, 1, none⟩))) rfl (by kernel_rfl) (by kernel_rfl) (by kernel_rfl) (fun _ _ _ h => h) (Or.inl ⟨by kernel_rfl, fun w' hSw => ?_⟩) hS ?_
  · go_simp
    all_goals first | rfl | (simp [*]; done)
  simp only [Act.put, List.setIfInBounds_toArray, List.set_cons_zero, List.set_cons_succ]
  refine wpAnyH_take (i := 2) (oi := ⟨some 13, _, _, _, _, _⟩) (v := (.string tn)) rfl (by kernel_rfl) (by kernel_rfl) (by kernel_rfl) (fun _ _ _ h => h) (Or.inl ⟨by kernel_rfl, fun w' hSw => ?_⟩) hS ?_
  · obtain ⟨s1, s2, s3, s4, s5, s6, s7, s8⟩ := hSw
    go_simp
    all_goals first | rfl | (simp [*]; done)
  simp only [Act.put, List.setIfInBounds_toArray, List.set_cons_zero, List.set_cons_succ]
  refine wpAnyH_take (i := 4) (oi := ⟨some 15, _, _, _, _, _⟩) (v := (.pointer (some ⟨B, 2, none⟩))) rfl (by kernel_rfl) (by kernel_rfl) (by kernel_rfl) (fun _ _ _ h => h) (Or.inl ⟨by kernel_rfl, fun w' hSw => ?_⟩) hS ?_
  · go_simp
    all_goals first | rfl | (simp [*]; done)
  simp only [Act.put, List.setIfInBounds_toArray, List.set_cons_zero, List.set_cons_succ]
  refine wpAnyH_take (i := 5) (oi := ⟨some 16, _, _, _, _, _⟩) (v := (.string us)) rfl (by kernel_rfl) (by kernel_rfl) (by kernel_rfl) (fun _ _ _ h => h) (Or.inl ⟨by kernel_rfl, fun w' hSw => ?_⟩) hS ?_
  · obtain ⟨s1, s2, s3, s4, s5, s6, s7, s8⟩ := hSw
    go_simp
    all_goals first | rfl | (simp [*]; done)
  simp only [Act.put, List.setIfInBounds_toArray, List.set_cons_zero, List.set_cons_succ]
  refine wpAnyH_take (i := 7) (oi := ⟨some 18, _, _, _, _, _⟩) (v := (.pointer (some ⟨B, 3, none⟩))) rfl (by kernel_rfl) (by kernel_rfl) (by kernel_rfl) (fun _ _ _ h => h) (Or.inl ⟨by kernel_rfl, fun w' hSw => ?_⟩) hS ?_
  · go_simp
    all_goals first | rfl | (simp [*]; done)
  simp only [Act.put, List.setIfInBounds_toArray, List.set_cons_zero, List.set_cons_succ]
  refine wpAnyH_take (i := 8) (oi := ⟨some 19, _, _, _, _, _⟩) (v := (.string sp)) rfl (by kernel_rfl) (by kernel_rfl) (by kernel_rfl) (fun _ _ _ h => h) (Or.inl ⟨by kernel_rfl, fun w' hSw => ?_⟩) hS ?_
  · obtain ⟨s1, s2, s3, s4, s5, s6, s7, s8⟩ := hSw
    go_simp
    all_goals first | rfl | (simp [*]; done)
  simp only [Act.put, List.setIfInBounds_toArray, List.set_cons_zero, List.set_cons_succ]
  refine wpAnyH_take (i := 10) (oi := ⟨some 21, _, _, _, _, _⟩) (v := (.pointer (some ⟨B, 4, none⟩))) rfl (by kernel_rfl) (by kernel_rfl) (by kernel_rfl) (fun _ _ _ h => h) (Or.inl ⟨by kernel_rfl, fun w' hSw => ?_⟩) hS ?_
  · go_simp
    all_goals first | rfl | (simp [*]; done)
  simp only [Act.put, List.setIfInBounds_toArray, List.set_cons_zero, List.set_cons_succ]
  refine wpAnyH_take (i := 11) (oi := ⟨some 22, _, _, _, _, _⟩) (v := (.int .i64 (run : Int))) rfl (by kernel_rfl) (by kernel_rfl) (by kernel_rfl) (fun _ _ _ h => h) (Or.inl ⟨by kernel_rfl, fun w' hSw => ?_⟩) hS ?_
  · obtain ⟨s1, s2, s3, s4, s5, s6, s7, s8⟩ := hSw
    go_simp
    all_goals first | rfl | (simp [*]; done)
  simp only [Act.put, List.setIfInBounds_toArray, List.set_cons_zero, List.set_cons_succ]
  refine wpAnyH_take (i := 13) (oi := ⟨some 24, _, _, _, _, _⟩) (v := (.pointer (some ⟨B, 5, none⟩))) rfl (by kernel_rfl) (by kernel_rfl) (by kernel_rfl) (fun _ _ _ h => h) (Or.inl ⟨by kernel_rfl, fun w' hSw => ?_⟩) hS ?_
  · go_simp
    all_goals first | rfl | (simp [*]; done)
  simp only [Act.put, List.setIfInBounds_toArray, List.set_cons_zero, List.set_cons_succ]
  refine wpAnyH_take (i := 14) (oi := ⟨some 25, _, _, _, _, _⟩) (v := (.int .i64 (num : Int))) rfl (by kernel_rfl) (by kernel_rfl) (by kernel_rfl) (fun _ _ _ h => h) (Or.inl ⟨by kernel_rfl, fun w' hSw => ?_⟩) hS ?_
  · obtain ⟨s1, s2, s3, s4, s5, s6, s7, s8⟩ := hSw
    go_simp
    all_goals first | rfl | (simp [*]; done)
  simp only [Act.put, List.setIfInBounds_toArray, List.set_cons_zero, List.set_cons_succ]
  refine wpAnyH_take (i := 16) (oi := ⟨some 27, _, _, _, _, _⟩) (v := (.pointer (some ⟨B, 6, none⟩))) rfl (by kernel_rfl) (by kernel_rfl) (by kernel_rfl) (fun _ _ _ h => h) (Or.inl ⟨by kernel_rfl, fun w' hSw => ?_⟩) hS ?_
  · go_simp
    all_goals first | rfl | (simp [*]; done)
  simp only [Act.put, List.setIfInBounds_toArray, List.set_cons_zero, List.set_cons_succ]
  refine wpAnyH_take (i := 17) (oi := ⟨some 28, _, _, _, _, _⟩) (v := (.string tx)) rfl (by kernel_rfl) (by kernel_rfl) (by kernel_rfl) (fun _ _ _ h => h) (Or.inl ⟨by kernel_rfl, fun w' hSw => ?_⟩) hS ?_
  · obtain ⟨s1, s2, s3, s4, s5, s6, s7, s8⟩ := hSw
    go_simp
    all_goals first | rfl | (simp [*]; done)
  simp only [Act.put, List.setIfInBounds_toArray, List.set_cons_zero, List.set_cons_succ]
  refine wpAnyH_ready (rs := [3]) (by kernel_rfl) (by simp) ?_
  refine AllReadyH.cons (o := ⟨some 14, _, _, _, _, _⟩) rfl (fun K hK => ?_) AllReadyH.nil
  go_simp
  refine (HC1.out _).mono ?_
  rintro e wa ⟨rfl, hwa⟩
  have hwa := hwa.symm
  subst hwa
  go_simp
  refine hK.out _ _ hS (fun hS => ?_)
  clear hK
  refine wpAnyH_ready (rs := [6]) (by kernel_rfl) (by simp) ?_
  refine AllReadyH.cons (o := ⟨some 17, _, _, _, _, _⟩) rfl (fun K hK => ?_) AllReadyH.nil
  go_simp
  refine (HC2.out _).mono ?_
  rintro e wa ⟨rfl, hwa⟩
  have hwa := hwa.symm
  subst hwa
  go_simp
  refine hK.out _ _ hS (fun hS => ?_)
  clear hK
  refine wpAnyH_ready (rs := [9]) (by kernel_rfl) (by simp) ?_
  refine AllReadyH.cons (o := ⟨some 20, _, _, _, _, _⟩) rfl (fun K hK => ?_) AllReadyH.nil
  go_simp
  refine (HC3.out _).mono ?_
  rintro e wa ⟨rfl, hwa⟩
  have hwa := hwa.symm
  subst hwa
  go_simp
  refine hK.out _ _ hS (fun hS => ?_)
  clear hK
  refine wpAnyH_ready (rs := [12]) (by kernel_rfl) (by simp) ?_
  refine AllReadyH.cons (o := ⟨some 23, _, _, _, _, _⟩) rfl (fun K hK => ?_) AllReadyH.nil
  go_simp
  refine (HC4.out _ hS.1).mono ?_
  rintro e wa ⟨rfl, hga⟩
  go_simp
  refine hK.out _ _ ⟨grown_trans hS.1 hga, hga.cell hS.2.1 (by simp), hga.cell hS.2.2.1 (by simp), hga.cell hS.2.2.2.1 (by simp), hga.cell hS.2.2.2.2.1 (by simp), hga.cell hS.2.2.2.2.2.1 (by simp), hga.cell hS.2.2.2.2.2.2.1 (by simp), hga.cell hS.2.2.2.2.2.2.2 (by simp)⟩ (fun hS => ?_)
  clear hK
  refine wpAnyH_ready (rs := [15]) (by kernel_rfl) (by simp) ?_
  refine AllReadyH.cons (o := ⟨some 26, _, _, _, _, _⟩) rfl (fun K hK => ?_) AllReadyH.nil
  go_simp
  refine (HC5.out _ hS.1).mono ?_
  rintro e wa ⟨rfl, hga⟩
  go_simp
  refine hK.out _ _ ⟨grown_trans hS.1 hga, hga.cell hS.2.1 (by simp), hga.cell hS.2.2.1 (by simp), hga.cell hS.2.2.2.1 (by simp), hga.cell hS.2.2.2.2.1 (by simp), hga.cell hS.2.2.2.2.2.1 (by simp), hga.cell hS.2.2.2.2.2.2.1 (by simp), hga.cell hS.2.2.2.2.2.2.2 (by simp)⟩ (fun hS => ?_)
  clear hK
  have HS4 := Lib.hid hS
  refine wpAnyH_ready (rs := [18]) (by kernel_rfl) (by simp) ?_
  refine AllReadyH.cons (o := ⟨some 29, _, _, _, _, _⟩) rfl (fun K hK => ?_) AllReadyH.nil
  go_simp
  refine hK.out _ _ ⟨grown_alloc HS4.out.1 _, (World.grownBy_alloc _ _ none).cell HS4.out.2.1 (by simp), (World.grownBy_alloc _ _ none).cell HS4.out.2.2.1 (by simp), (World.grownBy_alloc _ _ none).cell HS4.out.2.2.2.1 (by simp), (World.grownBy_alloc _ _ none).cell HS4.out.2.2.2.2.1 (by simp), (World.grownBy_alloc _ _ none).cell HS4.out.2.2.2.2.2.1 (by simp), (World.grownBy_alloc _ _ none).cell HS4.out.2.2.2.2.2.2.1 (by simp), (World.grownBy_alloc _ _ none).cell HS4.out.2.2.2.2.2.2.2 (by simp)⟩ (fun hS => ?_)
  clear hK
  refine wpAnyH_ready (rs := [19]) (by kernel_rfl) (by simp) ?_
  refine AllReadyH.cons (o := ⟨some 30, _, _, _, _, _⟩) rfl (fun K hK => ?_) AllReadyH.nil
  go_simp
  refine (HLI.out _ _ (fun j u hu => by rw [Addr.add_mid, Nat.zero_add]; exact (Blk.new _ 9 (strs [T1, T2, T3, D1, D2, tx])).cell hu)).mono ?_
  rintro e wa ⟨rfl, hga⟩
  go_simp
  refine hK.out _ _ ⟨grown_trans hS.1 hga, hga.cell hS.2.1 (by simp), hga.cell hS.2.2.1 (by simp), hga.cell hS.2.2.2.1 (by simp), hga.cell hS.2.2.2.2.1 (by simp), hga.cell hS.2.2.2.2.2.1 (by simp), hga.cell hS.2.2.2.2.2.2.1 (by simp), hga.cell hS.2.2.2.2.2.2.2 (by simp)⟩ (fun hS => ?_)
  clear hK
  refine wpAnyH_take (i := 20) (oi := ⟨some 2, _, _, _, _, _⟩) (v := (.string (writeT 1 tn us sp run num tx))) rfl (by kernel_rfl) (by kernel_rfl) (by kernel_rfl) (fun _ _ _ h => h) (Or.inl ⟨by kernel_rfl, fun w' hSw => ?_⟩) hS ?_
  · go_simp
  simp only [Act.put, List.setIfInBounds_toArray, List.set_cons_zero, List.set_cons_succ]
  refine wpAnyH_done (by kernel_rfl) ?_ _
  go_wp2
  go_ret
  exact ⟨rfl, hS.1⟩

set_option maxRecDepth 100000 in
set_option maxHeartbeats 8000000 in
theorem iwrite_2 (w : World) (hP : Pow w) (tn us sp : ByteArray) (run num : Nat) (tx : ByteArray) (h1 : tn.size ≤ 1048576) (h2 : us.size ≤ 1048576) (h3 : sp.size ≤ 1048576) (h4 : tx.size ≤ 1048576) (hp : ReqP 2 tn us sp run num tx) :
    Calls Tryd.prog 31 #[.agg #[.int .i64 2, .string tn, .string us, .string sp, .int .i64 (run : Int), .int .i64 (num : Int), .string tx]] w fun e w' => e = .returned (.string (writeT 2 tn us sp run num tx)) ∧ w.grownBy w' none := by
  have hrun : run < 4611686018427387904 := by have := hp.2.2.2.2.1.2; omega
  have hnum : num < 4611686018427387904 := by have := hp.2.2.2.2.2.1.2; omega
  obtain ⟨W, hW⟩ : ∃ W, w.alloc (Obj.cells #[Value.int .i64 2, .string tn, .string us, .string sp, .int .i64 (run : Int), .int .i64 (num : Int), .string tx] 31) = W := ⟨_, rfl⟩
  obtain ⟨B, hB⟩ : ∃ B, B = w.heap.size := ⟨_, rfl⟩
  have HB := Lib.hid (show Blk W B 31 [.int .i64 2, .string tn, .string us, .string sp, .int .i64 (run : Int), .int .i64 (num : Int), .string tx] from by rw [← hW, hB]; exact Blk.new w 31 _)
  have HG := Lib.hid (show w.grownBy W none from by rw [← hW]; exact grown_alloc (grown_refl _ _) _)
  have HW := Lib.hid hW
  have HBE := Lib.hid hB
  have HRQ := Lib.hid ((ireq_any W 2 tn us sp run num tx h1 h2 h3 h4).mono (R' := fun e w' => e = .returned (.bool true) ∧ W.grownBy w' none) (fun e w' q => ⟨q.1.is_yes hp, q.2⟩))
  have z1 : (wordT tn).size ≤ 7 := wordT_size tn hp.1
  have z2 : (wordT us).size ≤ 7 := wordT_size us hp.2.1
  have z3 : (wordT sp).size ≤ 7 := wordT_size sp hp.2.2.1
  have z4 : (decS run).size ≤ 21 := decS_size run hrun
  have z5 : (decS num).size ≤ 21 := decS_size num hnum
  have HJW := Lib.hid (joinT_write 2 tn us sp run num tx)
  have HLN := Lib.hid (show (Lib.join ((kindW 2 :: [wordT tn, wordT us, wordT sp, decS run, decS num, tx]).map (·.data.toList)) [32]).length ≤ 140737488355328 from by
    have s7 : (kindW 2).size ≤ 7 := kindW_size 2 (by decide)
    simp [Lib.join]
    omega)
  obtain ⟨T1, hT1⟩ : ∃ K, wordT tn = K := ⟨_, rfl⟩
  obtain ⟨T2, hT2⟩ : ∃ K, wordT us = K := ⟨_, rfl⟩
  obtain ⟨T3, hT3⟩ : ∃ K, wordT sp = K := ⟨_, rfl⟩
  obtain ⟨D1, hD1⟩ : ∃ K, decS run = K := ⟨_, rfl⟩
  obtain ⟨D2, hD2⟩ : ∃ K, decS num = K := ⟨_, rfl⟩
  have HALL := Lib.hid (fun (V : World) (hV : w.grownBy V none ∧ W.grownBy V none) => show w.grownBy V none ∧ V.cell? ⟨B, 0, none⟩ = some (.int .i64 2) ∧ V.cell? ⟨B, 1, none⟩ = some (.string tn) ∧ V.cell? ⟨B, 2, none⟩ = some (.string us) ∧ V.cell? ⟨B, 3, none⟩ = some (.string sp) ∧ V.cell? ⟨B, 4, none⟩ = some (.int .i64 (run : Int)) ∧ V.cell? ⟨B, 5, none⟩ = some (.int .i64 (num : Int)) ∧ V.cell? ⟨B, 6, none⟩ = some (.string tx) from ⟨hV.1, hV.2.cell (HB.out.cell rfl) (by simp), hV.2.cell (HB.out.cell rfl) (by simp), hV.2.cell (HB.out.cell rfl) (by simp), hV.2.cell (HB.out.cell rfl) (by simp), hV.2.cell (HB.out.cell rfl) (by simp), hV.2.cell (HB.out.cell rfl) (by simp), hV.2.cell (HB.out.cell rfl) (by simp)⟩)
  have HPW := Lib.hid (fun (V : World) (hV : w.grownBy V none) => hP.grown hV)
  have HC1 := Lib.hid (fun (V : World) => (iword_any V tn).mono (R' := fun e w' => e = .returned (.string T1) ∧ w' = V) (fun e w' q => ⟨by rw [q.1, hT1], q.2⟩))
  have HC2 := Lib.hid (fun (V : World) => (iword_any V us).mono (R' := fun e w' => e = .returned (.string T2) ∧ w' = V) (fun e w' q => ⟨by rw [q.1, hT2], q.2⟩))
  have HC3 := Lib.hid (fun (V : World) => (iword_any V sp).mono (R' := fun e w' => e = .returned (.string T3) ∧ w' = V) (fun e w' q => ⟨by rw [q.1, hT3], q.2⟩))
  have HC4 := Lib.hid (fun (V : World) (hV : w.grownBy V none) => (itoa_nat run (by omega) V (HPW.out V hV)).mono (R' := fun e w' => e = .returned (.string D1) ∧ V.grownBy w' none) (fun e w' q => ⟨by rw [q.1, hD1], q.2⟩))
  have HC5 := Lib.hid (fun (V : World) (hV : w.grownBy V none) => (itoa_nat num (by omega) V (HPW.out V hV)).mono (R' := fun e w' => e = .returned (.string D2) ∧ V.grownBy w' none) (fun e w' q => ⟨by rw [q.1, hD2], q.2⟩))
  have HKL := Lib.hid (fun (V : World) => ikinds_any V)
  rw [hT1, hT2, hT3, hD1, hD2] at HJW HLN
  have HLI := Lib.hid (fun (V : World) (g : Nat) (hg : At V ⟨g, 0, none⟩ [T1, T2, T3, D1, D2, tx]) => (line_any V (kindW 2) g 0 6 [T1, T2, T3, D1, D2, tx] hg (by simp) HLN.out).mono (R' := fun e w' => e = .returned (.string (writeT 2 tn us sp run num tx)) ∧ V.grownBy w' none) (fun e w' q => ⟨by rw [q.1, HJW.out], q.2⟩))
  clear hp hP hW hB h1 h2 h3 h4 hT1 hT2 hT3 hD1 hD2 z1 z2 z3 z4 z5 hrun hnum HJW HLN
  go_enter Tryd.func31, Tryd.ntmps31
  go_wp2_with fail
  rw [HW.out]
  refine HRQ.out.mono ?_
  rintro e w1 ⟨rfl, hg1⟩
  have HG1 := Lib.hid (grown_trans HG.out hg1)
  have HX1 := Lib.hid hg1
  clear hg1 HRQ
  go_wp2
  rw [← HBE.out]
  refine wp_region_held_drew (S := fun w' => w.grownBy w' none ∧ w'.cell? ⟨B, 0, none⟩ = some (.int .i64 2) ∧ w'.cell? ⟨B, 1, none⟩ = some (.string tn) ∧ w'.cell? ⟨B, 2, none⟩ = some (.string us) ∧ w'.cell? ⟨B, 3, none⟩ = some (.string sp) ∧ w'.cell? ⟨B, 4, none⟩ = some (.int .i64 (run : Int)) ∧ w'.cell? ⟨B, 5, none⟩ = some (.int .i64 (num : Int)) ∧ w'.cell? ⟨B, 6, none⟩ = some (.string tx)) (by kernel_rfl) (HALL.out _ ⟨grown_drew HG1.out, grown_drew HX1.out⟩) (fun hS => ?_)
  refine wpAnyH_take (i := 1) (oi := ⟨some 8, _, _, _, _, _⟩) (v := (.pointer (some ⟨B, 0, none⟩))) rfl (by kernel_rfl) (by kernel_rfl) (by kernel_rfl) (fun _ _ _ h => h) (Or.inl ⟨by kernel_rfl, fun w' hSw => ?_⟩) hS ?_
  · go_simp
    all_goals first | rfl | (simp [*]; done) | (simp [kindsC]; done) | kernel_rfl
  simp only [Act.put, List.setIfInBounds_toArray, List.set_cons_zero, List.set_cons_succ]
  refine wpAnyH_take (i := 2) (oi := ⟨some 9, _, _, _, _, _⟩) (v := (.int .i64 2)) rfl (by kernel_rfl) (by kernel_rfl) (by kernel_rfl) (fun _ _ _ h => h) (Or.inl ⟨by kernel_rfl, fun w' hSw => ?_⟩) hS ?_
  · obtain ⟨s1, s2, s3, s4, s5, s6, s7, s8⟩ := hSw
    go_simp
    all_goals first | rfl | (simp [*]; done) | (simp [kindsC]; done) | kernel_rfl
  simp only [Act.put, List.setIfInBounds_toArray, List.set_cons_zero, List.set_cons_succ]
  refine wpAnyH_ready (rs := [0]) (by kernel_rfl) (by simp) ?_
  refine AllReadyH.cons (o := ⟨some 7, _, _, _, _, _⟩) rfl (fun K hK => ?_) AllReadyH.nil
  go_simp
  refine (HKL.out _).mono ?_
  rintro e wa ⟨rfl, hga⟩
  go_simp
  refine hK.out _ _ ⟨grown_trans hS.1 hga, hga.cell hS.2.1 (by simp), hga.cell hS.2.2.1 (by simp), hga.cell hS.2.2.2.1 (by simp), hga.cell hS.2.2.2.2.1 (by simp), hga.cell hS.2.2.2.2.2.1 (by simp), hga.cell hS.2.2.2.2.2.2.1 (by simp), hga.cell hS.2.2.2.2.2.2.2 (by simp)⟩ (fun hS => ?_)
  clear hK
  refine wpAnyH_take (i := 3) (oi := ⟨some 10, _, _, _, _, _⟩) (v := (.func (.func 60) #[.string ⟨#[116, 101, 110, 97, 110, 116]⟩] #[])) rfl (by kernel_rfl) (by kernel_rfl) (by kernel_rfl) (fun _ _ _ h => h) (Or.inl ⟨by kernel_rfl, fun w' hSw => ?_⟩) hS ?_
  · go_simp
    all_goals first | rfl | (simp [*]; done) | (simp [kindsC]; done) | kernel_rfl
  simp only [Act.put, List.setIfInBounds_toArray, List.set_cons_zero, List.set_cons_succ]
  refine wpAnyH_take (i := 4) (oi := ⟨some 3, _, _, _, _, _⟩) (v := (.func (.func 60) #[.string ⟨#[116, 101, 110, 97, 110, 116]⟩] #[])) rfl (by kernel_rfl) (by kernel_rfl) (by kernel_rfl) (fun _ _ _ h => h) (Or.inl ⟨by kernel_rfl, fun w' hSw => ?_⟩) hS ?_
  · go_simp
    all_goals first | rfl | (simp [*]; done) | (simp [kindsC]; done) | kernel_rfl
  simp only [Act.put, List.setIfInBounds_toArray, List.set_cons_zero, List.set_cons_succ]
  refine wpAnyH_done (by kernel_rfl) ?_ _
  have HS3 := Lib.hid hS
  go_wp2
  refine wp_region_held_drew (S := fun w' => w.grownBy w' none ∧ w'.cell? ⟨B, 0, none⟩ = some (.int .i64 2) ∧ w'.cell? ⟨B, 1, none⟩ = some (.string tn) ∧ w'.cell? ⟨B, 2, none⟩ = some (.string us) ∧ w'.cell? ⟨B, 3, none⟩ = some (.string sp) ∧ w'.cell? ⟨B, 4, none⟩ = some (.int .i64 (run : Int)) ∧ w'.cell? ⟨B, 5, none⟩ = some (.int .i64 (num : Int)) ∧ w'.cell? ⟨B, 6, none⟩ = some (.string tx)) (by kernel_rfl) (⟨grown_drew HS3.out.1, HS3.out.2⟩) (fun hS => ?_)
  refine wpAnyH_take (i := 0) (oi := ⟨some 11, _, _, _, _, _⟩) (v := (.func (.func 60) #[.string ⟨#[116, 101, 110, 97, 110, 116]⟩] #[])) rfl (by kernel_rfl) (by kernel_rfl) (by kernel_rfl) (fun _ _ _ h => h) (Or.inl ⟨by kernel_rfl, fun w' hSw => ?_⟩) hS ?_
  · go_simp
    all_goals first | rfl | (simp [*]; done)
  simp only [Act.put, List.setIfInBounds_toArray, List.set_cons_zero, List.set_cons_succ]
  refine wpAnyH_take (i := 1) (oi := ⟨some 12, _, _, _, _, _⟩) (v := (.pointer (some ⟨B, 1, none⟩))) rfl (by kernel_rfl) (by kernel_rfl) (by kernel_rfl) (fun _ _ _ h => h) (Or.inl ⟨by kernel_rfl, fun w' hSw => ?_⟩) hS ?_
  · go_simp
    all_goals first | rfl | (simp [*]; done)
  simp only [Act.put, List.setIfInBounds_toArray, List.set_cons_zero, List.set_cons_succ]
  refine wpAnyH_take (i := 2) (oi := ⟨some 13, _, _, _, _, _⟩) (v := (.string tn)) rfl (by kernel_rfl) (by kernel_rfl) (by kernel_rfl) (fun _ _ _ h => h) (Or.inl ⟨by kernel_rfl, fun w' hSw => ?_⟩) hS ?_
  · obtain ⟨s1, s2, s3, s4, s5, s6, s7, s8⟩ := hSw
    go_simp
    all_goals first | rfl | (simp [*]; done)
  simp only [Act.put, List.setIfInBounds_toArray, List.set_cons_zero, List.set_cons_succ]
  refine wpAnyH_take (i := 4) (oi := ⟨some 15, _, _, _, _, _⟩) (v := (.pointer (some ⟨B, 2, none⟩))) rfl (by kernel_rfl) (by kernel_rfl) (by kernel_rfl) (fun _ _ _ h => h) (Or.inl ⟨by kernel_rfl, fun w' hSw => ?_⟩) hS ?_
  · go_simp
    all_goals first | rfl | (simp [*]; done)
  simp only [Act.put, List.setIfInBounds_toArray, List.set_cons_zero, List.set_cons_succ]
  refine wpAnyH_take (i := 5) (oi := ⟨some 16, _, _, _, _, _⟩) (v := (.string us)) rfl (by kernel_rfl) (by kernel_rfl) (by kernel_rfl) (fun _ _ _ h => h) (Or.inl ⟨by kernel_rfl, fun w' hSw => ?_⟩) hS ?_
  · obtain ⟨s1, s2, s3, s4, s5, s6, s7, s8⟩ := hSw
    go_simp
    all_goals first | rfl | (simp [*]; done)
  simp only [Act.put, List.setIfInBounds_toArray, List.set_cons_zero, List.set_cons_succ]
  refine wpAnyH_take (i := 7) (oi := ⟨some 18, _, _, _, _, _⟩) (v := (.pointer (some ⟨B, 3, none⟩))) rfl (by kernel_rfl) (by kernel_rfl) (by kernel_rfl) (fun _ _ _ h => h) (Or.inl ⟨by kernel_rfl, fun w' hSw => ?_⟩) hS ?_
  · go_simp
    all_goals first | rfl | (simp [*]; done)
  simp only [Act.put, List.setIfInBounds_toArray, List.set_cons_zero, List.set_cons_succ]
  refine wpAnyH_take (i := 8) (oi := ⟨some 19, _, _, _, _, _⟩) (v := (.string sp)) rfl (by kernel_rfl) (by kernel_rfl) (by kernel_rfl) (fun _ _ _ h => h) (Or.inl ⟨by kernel_rfl, fun w' hSw => ?_⟩) hS ?_
  · obtain ⟨s1, s2, s3, s4, s5, s6, s7, s8⟩ := hSw
    go_simp
    all_goals first | rfl | (simp [*]; done)
  simp only [Act.put, List.setIfInBounds_toArray, List.set_cons_zero, List.set_cons_succ]
  refine wpAnyH_take (i := 10) (oi := ⟨some 21, _, _, _, _, _⟩) (v := (.pointer (some ⟨B, 4, none⟩))) rfl (by kernel_rfl) (by kernel_rfl) (by kernel_rfl) (fun _ _ _ h => h) (Or.inl ⟨by kernel_rfl, fun w' hSw => ?_⟩) hS ?_
  · go_simp
    all_goals first | rfl | (simp [*]; done)
  simp only [Act.put, List.setIfInBounds_toArray, List.set_cons_zero, List.set_cons_succ]
  refine wpAnyH_take (i := 11) (oi := ⟨some 22, _, _, _, _, _⟩) (v := (.int .i64 (run : Int))) rfl (by kernel_rfl) (by kernel_rfl) (by kernel_rfl) (fun _ _ _ h => h) (Or.inl ⟨by kernel_rfl, fun w' hSw => ?_⟩) hS ?_
  · obtain ⟨s1, s2, s3, s4, s5, s6, s7, s8⟩ := hSw
    go_simp
    all_goals first | rfl | (simp [*]; done)
  simp only [Act.put, List.setIfInBounds_toArray, List.set_cons_zero, List.set_cons_succ]
  refine wpAnyH_take (i := 13) (oi := ⟨some 24, _, _, _, _, _⟩) (v := (.pointer (some ⟨B, 5, none⟩))) rfl (by kernel_rfl) (by kernel_rfl) (by kernel_rfl) (fun _ _ _ h => h) (Or.inl ⟨by kernel_rfl, fun w' hSw => ?_⟩) hS ?_
  · go_simp
    all_goals first | rfl | (simp [*]; done)
  simp only [Act.put, List.setIfInBounds_toArray, List.set_cons_zero, List.set_cons_succ]
  refine wpAnyH_take (i := 14) (oi := ⟨some 25, _, _, _, _, _⟩) (v := (.int .i64 (num : Int))) rfl (by kernel_rfl) (by kernel_rfl) (by kernel_rfl) (fun _ _ _ h => h) (Or.inl ⟨by kernel_rfl, fun w' hSw => ?_⟩) hS ?_
  · obtain ⟨s1, s2, s3, s4, s5, s6, s7, s8⟩ := hSw
    go_simp
    all_goals first | rfl | (simp [*]; done)
  simp only [Act.put, List.setIfInBounds_toArray, List.set_cons_zero, List.set_cons_succ]
  refine wpAnyH_take (i := 16) (oi := ⟨some 27, _, _, _, _, _⟩) (v := (.pointer (some ⟨B, 6, none⟩))) rfl (by kernel_rfl) (by kernel_rfl) (by kernel_rfl) (fun _ _ _ h => h) (Or.inl ⟨by kernel_rfl, fun w' hSw => ?_⟩) hS ?_
  · go_simp
    all_goals first | rfl | (simp [*]; done)
  simp only [Act.put, List.setIfInBounds_toArray, List.set_cons_zero, List.set_cons_succ]
  refine wpAnyH_take (i := 17) (oi := ⟨some 28, _, _, _, _, _⟩) (v := (.string tx)) rfl (by kernel_rfl) (by kernel_rfl) (by kernel_rfl) (fun _ _ _ h => h) (Or.inl ⟨by kernel_rfl, fun w' hSw => ?_⟩) hS ?_
  · obtain ⟨s1, s2, s3, s4, s5, s6, s7, s8⟩ := hSw
    go_simp
    all_goals first | rfl | (simp [*]; done)
  simp only [Act.put, List.setIfInBounds_toArray, List.set_cons_zero, List.set_cons_succ]
  refine wpAnyH_ready (rs := [3]) (by kernel_rfl) (by simp) ?_
  refine AllReadyH.cons (o := ⟨some 14, _, _, _, _, _⟩) rfl (fun K hK => ?_) AllReadyH.nil
  go_simp
  refine (HC1.out _).mono ?_
  rintro e wa ⟨rfl, hwa⟩
  have hwa := hwa.symm
  subst hwa
  go_simp
  refine hK.out _ _ hS (fun hS => ?_)
  clear hK
  refine wpAnyH_ready (rs := [6]) (by kernel_rfl) (by simp) ?_
  refine AllReadyH.cons (o := ⟨some 17, _, _, _, _, _⟩) rfl (fun K hK => ?_) AllReadyH.nil
  go_simp
  refine (HC2.out _).mono ?_
  rintro e wa ⟨rfl, hwa⟩
  have hwa := hwa.symm
  subst hwa
  go_simp
  refine hK.out _ _ hS (fun hS => ?_)
  clear hK
  refine wpAnyH_ready (rs := [9]) (by kernel_rfl) (by simp) ?_
  refine AllReadyH.cons (o := ⟨some 20, _, _, _, _, _⟩) rfl (fun K hK => ?_) AllReadyH.nil
  go_simp
  refine (HC3.out _).mono ?_
  rintro e wa ⟨rfl, hwa⟩
  have hwa := hwa.symm
  subst hwa
  go_simp
  refine hK.out _ _ hS (fun hS => ?_)
  clear hK
  refine wpAnyH_ready (rs := [12]) (by kernel_rfl) (by simp) ?_
  refine AllReadyH.cons (o := ⟨some 23, _, _, _, _, _⟩) rfl (fun K hK => ?_) AllReadyH.nil
  go_simp
  refine (HC4.out _ hS.1).mono ?_
  rintro e wa ⟨rfl, hga⟩
  go_simp
  refine hK.out _ _ ⟨grown_trans hS.1 hga, hga.cell hS.2.1 (by simp), hga.cell hS.2.2.1 (by simp), hga.cell hS.2.2.2.1 (by simp), hga.cell hS.2.2.2.2.1 (by simp), hga.cell hS.2.2.2.2.2.1 (by simp), hga.cell hS.2.2.2.2.2.2.1 (by simp), hga.cell hS.2.2.2.2.2.2.2 (by simp)⟩ (fun hS => ?_)
  clear hK
  refine wpAnyH_ready (rs := [15]) (by kernel_rfl) (by simp) ?_
  refine AllReadyH.cons (o := ⟨some 26, _, _, _, _, _⟩) rfl (fun K hK => ?_) AllReadyH.nil
  go_simp
  refine (HC5.out _ hS.1).mono ?_
  rintro e wa ⟨rfl, hga⟩
  go_simp
  refine hK.out _ _ ⟨grown_trans hS.1 hga, hga.cell hS.2.1 (by simp), hga.cell hS.2.2.1 (by simp), hga.cell hS.2.2.2.1 (by simp), hga.cell hS.2.2.2.2.1 (by simp), hga.cell hS.2.2.2.2.2.1 (by simp), hga.cell hS.2.2.2.2.2.2.1 (by simp), hga.cell hS.2.2.2.2.2.2.2 (by simp)⟩ (fun hS => ?_)
  clear hK
  have HS4 := Lib.hid hS
  refine wpAnyH_ready (rs := [18]) (by kernel_rfl) (by simp) ?_
  refine AllReadyH.cons (o := ⟨some 29, _, _, _, _, _⟩) rfl (fun K hK => ?_) AllReadyH.nil
  go_simp
  refine hK.out _ _ ⟨grown_alloc HS4.out.1 _, (World.grownBy_alloc _ _ none).cell HS4.out.2.1 (by simp), (World.grownBy_alloc _ _ none).cell HS4.out.2.2.1 (by simp), (World.grownBy_alloc _ _ none).cell HS4.out.2.2.2.1 (by simp), (World.grownBy_alloc _ _ none).cell HS4.out.2.2.2.2.1 (by simp), (World.grownBy_alloc _ _ none).cell HS4.out.2.2.2.2.2.1 (by simp), (World.grownBy_alloc _ _ none).cell HS4.out.2.2.2.2.2.2.1 (by simp), (World.grownBy_alloc _ _ none).cell HS4.out.2.2.2.2.2.2.2 (by simp)⟩ (fun hS => ?_)
  clear hK
  refine wpAnyH_ready (rs := [19]) (by kernel_rfl) (by simp) ?_
  refine AllReadyH.cons (o := ⟨some 30, _, _, _, _, _⟩) rfl (fun K hK => ?_) AllReadyH.nil
  go_simp
  refine (HLI.out _ _ (fun j u hu => by rw [Addr.add_mid, Nat.zero_add]; exact (Blk.new _ 9 (strs [T1, T2, T3, D1, D2, tx])).cell hu)).mono ?_
  rintro e wa ⟨rfl, hga⟩
  go_simp
  refine hK.out _ _ ⟨grown_trans hS.1 hga, hga.cell hS.2.1 (by simp), hga.cell hS.2.2.1 (by simp), hga.cell hS.2.2.2.1 (by simp), hga.cell hS.2.2.2.2.1 (by simp), hga.cell hS.2.2.2.2.2.1 (by simp), hga.cell hS.2.2.2.2.2.2.1 (by simp), hga.cell hS.2.2.2.2.2.2.2 (by simp)⟩ (fun hS => ?_)
  clear hK
  refine wpAnyH_take (i := 20) (oi := ⟨some 2, _, _, _, _, _⟩) (v := (.string (writeT 2 tn us sp run num tx))) rfl (by kernel_rfl) (by kernel_rfl) (by kernel_rfl) (fun _ _ _ h => h) (Or.inl ⟨by kernel_rfl, fun w' hSw => ?_⟩) hS ?_
  · go_simp
  simp only [Act.put, List.setIfInBounds_toArray, List.set_cons_zero, List.set_cons_succ]
  refine wpAnyH_done (by kernel_rfl) ?_ _
  go_wp2
  go_ret
  exact ⟨rfl, hS.1⟩

set_option maxRecDepth 100000 in
set_option maxHeartbeats 8000000 in
theorem iwrite_3 (w : World) (hP : Pow w) (tn us sp : ByteArray) (run num : Nat) (tx : ByteArray) (h1 : tn.size ≤ 1048576) (h2 : us.size ≤ 1048576) (h3 : sp.size ≤ 1048576) (h4 : tx.size ≤ 1048576) (hp : ReqP 3 tn us sp run num tx) :
    Calls Tryd.prog 31 #[.agg #[.int .i64 3, .string tn, .string us, .string sp, .int .i64 (run : Int), .int .i64 (num : Int), .string tx]] w fun e w' => e = .returned (.string (writeT 3 tn us sp run num tx)) ∧ w.grownBy w' none := by
  have hrun : run < 4611686018427387904 := by have := hp.2.2.2.2.1.2; omega
  have hnum : num < 4611686018427387904 := by have := hp.2.2.2.2.2.1.2; omega
  obtain ⟨W, hW⟩ : ∃ W, w.alloc (Obj.cells #[Value.int .i64 3, .string tn, .string us, .string sp, .int .i64 (run : Int), .int .i64 (num : Int), .string tx] 31) = W := ⟨_, rfl⟩
  obtain ⟨B, hB⟩ : ∃ B, B = w.heap.size := ⟨_, rfl⟩
  have HB := Lib.hid (show Blk W B 31 [.int .i64 3, .string tn, .string us, .string sp, .int .i64 (run : Int), .int .i64 (num : Int), .string tx] from by rw [← hW, hB]; exact Blk.new w 31 _)
  have HG := Lib.hid (show w.grownBy W none from by rw [← hW]; exact grown_alloc (grown_refl _ _) _)
  have HW := Lib.hid hW
  have HBE := Lib.hid hB
  have HRQ := Lib.hid ((ireq_any W 3 tn us sp run num tx h1 h2 h3 h4).mono (R' := fun e w' => e = .returned (.bool true) ∧ W.grownBy w' none) (fun e w' q => ⟨q.1.is_yes hp, q.2⟩))
  have z1 : (wordT tn).size ≤ 7 := wordT_size tn hp.1
  have z2 : (wordT us).size ≤ 7 := wordT_size us hp.2.1
  have z3 : (wordT sp).size ≤ 7 := wordT_size sp hp.2.2.1
  have z4 : (decS run).size ≤ 21 := decS_size run hrun
  have z5 : (decS num).size ≤ 21 := decS_size num hnum
  have HJW := Lib.hid (joinT_write 3 tn us sp run num tx)
  have HLN := Lib.hid (show (Lib.join ((kindW 3 :: [wordT tn, wordT us, wordT sp, decS run, decS num, tx]).map (·.data.toList)) [32]).length ≤ 140737488355328 from by
    have s7 : (kindW 3).size ≤ 7 := kindW_size 3 (by decide)
    simp [Lib.join]
    omega)
  obtain ⟨T1, hT1⟩ : ∃ K, wordT tn = K := ⟨_, rfl⟩
  obtain ⟨T2, hT2⟩ : ∃ K, wordT us = K := ⟨_, rfl⟩
  obtain ⟨T3, hT3⟩ : ∃ K, wordT sp = K := ⟨_, rfl⟩
  obtain ⟨D1, hD1⟩ : ∃ K, decS run = K := ⟨_, rfl⟩
  obtain ⟨D2, hD2⟩ : ∃ K, decS num = K := ⟨_, rfl⟩
  have HALL := Lib.hid (fun (V : World) (hV : w.grownBy V none ∧ W.grownBy V none) => show w.grownBy V none ∧ V.cell? ⟨B, 0, none⟩ = some (.int .i64 3) ∧ V.cell? ⟨B, 1, none⟩ = some (.string tn) ∧ V.cell? ⟨B, 2, none⟩ = some (.string us) ∧ V.cell? ⟨B, 3, none⟩ = some (.string sp) ∧ V.cell? ⟨B, 4, none⟩ = some (.int .i64 (run : Int)) ∧ V.cell? ⟨B, 5, none⟩ = some (.int .i64 (num : Int)) ∧ V.cell? ⟨B, 6, none⟩ = some (.string tx) from ⟨hV.1, hV.2.cell (HB.out.cell rfl) (by simp), hV.2.cell (HB.out.cell rfl) (by simp), hV.2.cell (HB.out.cell rfl) (by simp), hV.2.cell (HB.out.cell rfl) (by simp), hV.2.cell (HB.out.cell rfl) (by simp), hV.2.cell (HB.out.cell rfl) (by simp), hV.2.cell (HB.out.cell rfl) (by simp)⟩)
  have HPW := Lib.hid (fun (V : World) (hV : w.grownBy V none) => hP.grown hV)
  have HC1 := Lib.hid (fun (V : World) => (iword_any V tn).mono (R' := fun e w' => e = .returned (.string T1) ∧ w' = V) (fun e w' q => ⟨by rw [q.1, hT1], q.2⟩))
  have HC2 := Lib.hid (fun (V : World) => (iword_any V us).mono (R' := fun e w' => e = .returned (.string T2) ∧ w' = V) (fun e w' q => ⟨by rw [q.1, hT2], q.2⟩))
  have HC3 := Lib.hid (fun (V : World) => (iword_any V sp).mono (R' := fun e w' => e = .returned (.string T3) ∧ w' = V) (fun e w' q => ⟨by rw [q.1, hT3], q.2⟩))
  have HC4 := Lib.hid (fun (V : World) (hV : w.grownBy V none) => (itoa_nat run (by omega) V (HPW.out V hV)).mono (R' := fun e w' => e = .returned (.string D1) ∧ V.grownBy w' none) (fun e w' q => ⟨by rw [q.1, hD1], q.2⟩))
  have HC5 := Lib.hid (fun (V : World) (hV : w.grownBy V none) => (itoa_nat num (by omega) V (HPW.out V hV)).mono (R' := fun e w' => e = .returned (.string D2) ∧ V.grownBy w' none) (fun e w' q => ⟨by rw [q.1, hD2], q.2⟩))
  have HKL := Lib.hid (fun (V : World) => ikinds_any V)
  rw [hT1, hT2, hT3, hD1, hD2] at HJW HLN
  have HLI := Lib.hid (fun (V : World) (g : Nat) (hg : At V ⟨g, 0, none⟩ [T1, T2, T3, D1, D2, tx]) => (line_any V (kindW 3) g 0 6 [T1, T2, T3, D1, D2, tx] hg (by simp) HLN.out).mono (R' := fun e w' => e = .returned (.string (writeT 3 tn us sp run num tx)) ∧ V.grownBy w' none) (fun e w' q => ⟨by rw [q.1, HJW.out], q.2⟩))
  clear hp hP hW hB h1 h2 h3 h4 hT1 hT2 hT3 hD1 hD2 z1 z2 z3 z4 z5 hrun hnum HJW HLN
  go_enter Tryd.func31, Tryd.ntmps31
  go_wp2_with fail
  rw [HW.out]
  refine HRQ.out.mono ?_
  rintro e w1 ⟨rfl, hg1⟩
  have HG1 := Lib.hid (grown_trans HG.out hg1)
  have HX1 := Lib.hid hg1
  clear hg1 HRQ
  go_wp2
  rw [← HBE.out]
  refine wp_region_held_drew (S := fun w' => w.grownBy w' none ∧ w'.cell? ⟨B, 0, none⟩ = some (.int .i64 3) ∧ w'.cell? ⟨B, 1, none⟩ = some (.string tn) ∧ w'.cell? ⟨B, 2, none⟩ = some (.string us) ∧ w'.cell? ⟨B, 3, none⟩ = some (.string sp) ∧ w'.cell? ⟨B, 4, none⟩ = some (.int .i64 (run : Int)) ∧ w'.cell? ⟨B, 5, none⟩ = some (.int .i64 (num : Int)) ∧ w'.cell? ⟨B, 6, none⟩ = some (.string tx)) (by kernel_rfl) (HALL.out _ ⟨grown_drew HG1.out, grown_drew HX1.out⟩) (fun hS => ?_)
  refine wpAnyH_take (i := 1) (oi := ⟨some 8, _, _, _, _, _⟩) (v := (.pointer (some ⟨B, 0, none⟩))) rfl (by kernel_rfl) (by kernel_rfl) (by kernel_rfl) (fun _ _ _ h => h) (Or.inl ⟨by kernel_rfl, fun w' hSw => ?_⟩) hS ?_
  · go_simp
    all_goals first | rfl | (simp [*]; done) | (simp [kindsC]; done) | kernel_rfl
  simp only [Act.put, List.setIfInBounds_toArray, List.set_cons_zero, List.set_cons_succ]
  refine wpAnyH_take (i := 2) (oi := ⟨some 9, _, _, _, _, _⟩) (v := (.int .i64 3)) rfl (by kernel_rfl) (by kernel_rfl) (by kernel_rfl) (fun _ _ _ h => h) (Or.inl ⟨by kernel_rfl, fun w' hSw => ?_⟩) hS ?_
  · obtain ⟨s1, s2, s3, s4, s5, s6, s7, s8⟩ := hSw
    go_simp
    all_goals first | rfl | (simp [*]; done) | (simp [kindsC]; done) | kernel_rfl
  simp only [Act.put, List.setIfInBounds_toArray, List.set_cons_zero, List.set_cons_succ]
  refine wpAnyH_ready (rs := [0]) (by kernel_rfl) (by simp) ?_
  refine AllReadyH.cons (o := ⟨some 7, _, _, _, _, _⟩) rfl (fun K hK => ?_) AllReadyH.nil
  go_simp
  refine (HKL.out _).mono ?_
  rintro e wa ⟨rfl, hga⟩
  go_simp
  refine hK.out _ _ ⟨grown_trans hS.1 hga, hga.cell hS.2.1 (by simp), hga.cell hS.2.2.1 (by simp), hga.cell hS.2.2.2.1 (by simp), hga.cell hS.2.2.2.2.1 (by simp), hga.cell hS.2.2.2.2.2.1 (by simp), hga.cell hS.2.2.2.2.2.2.1 (by simp), hga.cell hS.2.2.2.2.2.2.2 (by simp)⟩ (fun hS => ?_)
  clear hK
  refine wpAnyH_take (i := 3) (oi := ⟨some 10, _, _, _, _, _⟩) (v := (.func (.func 60) #[.string ⟨#[117, 115, 101, 114]⟩] #[])) rfl (by kernel_rfl) (by kernel_rfl) (by kernel_rfl) (fun _ _ _ h => h) (Or.inl ⟨by kernel_rfl, fun w' hSw => ?_⟩) hS ?_
  · go_simp
    all_goals first | rfl | (simp [*]; done) | (simp [kindsC]; done) | kernel_rfl
  simp only [Act.put, List.setIfInBounds_toArray, List.set_cons_zero, List.set_cons_succ]
  refine wpAnyH_take (i := 4) (oi := ⟨some 3, _, _, _, _, _⟩) (v := (.func (.func 60) #[.string ⟨#[117, 115, 101, 114]⟩] #[])) rfl (by kernel_rfl) (by kernel_rfl) (by kernel_rfl) (fun _ _ _ h => h) (Or.inl ⟨by kernel_rfl, fun w' hSw => ?_⟩) hS ?_
  · go_simp
    all_goals first | rfl | (simp [*]; done) | (simp [kindsC]; done) | kernel_rfl
  simp only [Act.put, List.setIfInBounds_toArray, List.set_cons_zero, List.set_cons_succ]
  refine wpAnyH_done (by kernel_rfl) ?_ _
  have HS3 := Lib.hid hS
  go_wp2
  refine wp_region_held_drew (S := fun w' => w.grownBy w' none ∧ w'.cell? ⟨B, 0, none⟩ = some (.int .i64 3) ∧ w'.cell? ⟨B, 1, none⟩ = some (.string tn) ∧ w'.cell? ⟨B, 2, none⟩ = some (.string us) ∧ w'.cell? ⟨B, 3, none⟩ = some (.string sp) ∧ w'.cell? ⟨B, 4, none⟩ = some (.int .i64 (run : Int)) ∧ w'.cell? ⟨B, 5, none⟩ = some (.int .i64 (num : Int)) ∧ w'.cell? ⟨B, 6, none⟩ = some (.string tx)) (by kernel_rfl) (⟨grown_drew HS3.out.1, HS3.out.2⟩) (fun hS => ?_)
  refine wpAnyH_take (i := 0) (oi := ⟨some 11, _, _, _, _, _⟩) (v := (.func (.func 60) #[.string ⟨#[117, 115, 101, 114]⟩] #[])) rfl (by kernel_rfl) (by kernel_rfl) (by kernel_rfl) (fun _ _ _ h => h) (Or.inl ⟨by kernel_rfl, fun w' hSw => ?_⟩) hS ?_
  · go_simp
    all_goals first | rfl | (simp [*]; done)
  simp only [Act.put, List.setIfInBounds_toArray, List.set_cons_zero, List.set_cons_succ]
  refine wpAnyH_take (i := 1) (oi := ⟨some 12, _, _, _, _, _⟩) (v := (.pointer (some ⟨B, 1, none⟩))) rfl (by kernel_rfl) (by kernel_rfl) (by kernel_rfl) (fun _ _ _ h => h) (Or.inl ⟨by kernel_rfl, fun w' hSw => ?_⟩) hS ?_
  · go_simp
    all_goals first | rfl | (simp [*]; done)
  simp only [Act.put, List.setIfInBounds_toArray, List.set_cons_zero, List.set_cons_succ]
  refine wpAnyH_take (i := 2) (oi := ⟨some 13, _, _, _, _, _⟩) (v := (.string tn)) rfl (by kernel_rfl) (by kernel_rfl) (by kernel_rfl) (fun _ _ _ h => h) (Or.inl ⟨by kernel_rfl, fun w' hSw => ?_⟩) hS ?_
  · obtain ⟨s1, s2, s3, s4, s5, s6, s7, s8⟩ := hSw
    go_simp
    all_goals first | rfl | (simp [*]; done)
  simp only [Act.put, List.setIfInBounds_toArray, List.set_cons_zero, List.set_cons_succ]
  refine wpAnyH_take (i := 4) (oi := ⟨some 15, _, _, _, _, _⟩) (v := (.pointer (some ⟨B, 2, none⟩))) rfl (by kernel_rfl) (by kernel_rfl) (by kernel_rfl) (fun _ _ _ h => h) (Or.inl ⟨by kernel_rfl, fun w' hSw => ?_⟩) hS ?_
  · go_simp
    all_goals first | rfl | (simp [*]; done)
  simp only [Act.put, List.setIfInBounds_toArray, List.set_cons_zero, List.set_cons_succ]
  refine wpAnyH_take (i := 5) (oi := ⟨some 16, _, _, _, _, _⟩) (v := (.string us)) rfl (by kernel_rfl) (by kernel_rfl) (by kernel_rfl) (fun _ _ _ h => h) (Or.inl ⟨by kernel_rfl, fun w' hSw => ?_⟩) hS ?_
  · obtain ⟨s1, s2, s3, s4, s5, s6, s7, s8⟩ := hSw
    go_simp
    all_goals first | rfl | (simp [*]; done)
  simp only [Act.put, List.setIfInBounds_toArray, List.set_cons_zero, List.set_cons_succ]
  refine wpAnyH_take (i := 7) (oi := ⟨some 18, _, _, _, _, _⟩) (v := (.pointer (some ⟨B, 3, none⟩))) rfl (by kernel_rfl) (by kernel_rfl) (by kernel_rfl) (fun _ _ _ h => h) (Or.inl ⟨by kernel_rfl, fun w' hSw => ?_⟩) hS ?_
  · go_simp
    all_goals first | rfl | (simp [*]; done)
  simp only [Act.put, List.setIfInBounds_toArray, List.set_cons_zero, List.set_cons_succ]
  refine wpAnyH_take (i := 8) (oi := ⟨some 19, _, _, _, _, _⟩) (v := (.string sp)) rfl (by kernel_rfl) (by kernel_rfl) (by kernel_rfl) (fun _ _ _ h => h) (Or.inl ⟨by kernel_rfl, fun w' hSw => ?_⟩) hS ?_
  · obtain ⟨s1, s2, s3, s4, s5, s6, s7, s8⟩ := hSw
    go_simp
    all_goals first | rfl | (simp [*]; done)
  simp only [Act.put, List.setIfInBounds_toArray, List.set_cons_zero, List.set_cons_succ]
  refine wpAnyH_take (i := 10) (oi := ⟨some 21, _, _, _, _, _⟩) (v := (.pointer (some ⟨B, 4, none⟩))) rfl (by kernel_rfl) (by kernel_rfl) (by kernel_rfl) (fun _ _ _ h => h) (Or.inl ⟨by kernel_rfl, fun w' hSw => ?_⟩) hS ?_
  · go_simp
    all_goals first | rfl | (simp [*]; done)
  simp only [Act.put, List.setIfInBounds_toArray, List.set_cons_zero, List.set_cons_succ]
  refine wpAnyH_take (i := 11) (oi := ⟨some 22, _, _, _, _, _⟩) (v := (.int .i64 (run : Int))) rfl (by kernel_rfl) (by kernel_rfl) (by kernel_rfl) (fun _ _ _ h => h) (Or.inl ⟨by kernel_rfl, fun w' hSw => ?_⟩) hS ?_
  · obtain ⟨s1, s2, s3, s4, s5, s6, s7, s8⟩ := hSw
    go_simp
    all_goals first | rfl | (simp [*]; done)
  simp only [Act.put, List.setIfInBounds_toArray, List.set_cons_zero, List.set_cons_succ]
  refine wpAnyH_take (i := 13) (oi := ⟨some 24, _, _, _, _, _⟩) (v := (.pointer (some ⟨B, 5, none⟩))) rfl (by kernel_rfl) (by kernel_rfl) (by kernel_rfl) (fun _ _ _ h => h) (Or.inl ⟨by kernel_rfl, fun w' hSw => ?_⟩) hS ?_
  · go_simp
    all_goals first | rfl | (simp [*]; done)
  simp only [Act.put, List.setIfInBounds_toArray, List.set_cons_zero, List.set_cons_succ]
  refine wpAnyH_take (i := 14) (oi := ⟨some 25, _, _, _, _, _⟩) (v := (.int .i64 (num : Int))) rfl (by kernel_rfl) (by kernel_rfl) (by kernel_rfl) (fun _ _ _ h => h) (Or.inl ⟨by kernel_rfl, fun w' hSw => ?_⟩) hS ?_
  · obtain ⟨s1, s2, s3, s4, s5, s6, s7, s8⟩ := hSw
    go_simp
    all_goals first | rfl | (simp [*]; done)
  simp only [Act.put, List.setIfInBounds_toArray, List.set_cons_zero, List.set_cons_succ]
  refine wpAnyH_take (i := 16) (oi := ⟨some 27, _, _, _, _, _⟩) (v := (.pointer (some ⟨B, 6, none⟩))) rfl (by kernel_rfl) (by kernel_rfl) (by kernel_rfl) (fun _ _ _ h => h) (Or.inl ⟨by kernel_rfl, fun w' hSw => ?_⟩) hS ?_
  · go_simp
    all_goals first | rfl | (simp [*]; done)
  simp only [Act.put, List.setIfInBounds_toArray, List.set_cons_zero, List.set_cons_succ]
  refine wpAnyH_take (i := 17) (oi := ⟨some 28, _, _, _, _, _⟩) (v := (.string tx)) rfl (by kernel_rfl) (by kernel_rfl) (by kernel_rfl) (fun _ _ _ h => h) (Or.inl ⟨by kernel_rfl, fun w' hSw => ?_⟩) hS ?_
  · obtain ⟨s1, s2, s3, s4, s5, s6, s7, s8⟩ := hSw
    go_simp
    all_goals first | rfl | (simp [*]; done)
  simp only [Act.put, List.setIfInBounds_toArray, List.set_cons_zero, List.set_cons_succ]
  refine wpAnyH_ready (rs := [3]) (by kernel_rfl) (by simp) ?_
  refine AllReadyH.cons (o := ⟨some 14, _, _, _, _, _⟩) rfl (fun K hK => ?_) AllReadyH.nil
  go_simp
  refine (HC1.out _).mono ?_
  rintro e wa ⟨rfl, hwa⟩
  have hwa := hwa.symm
  subst hwa
  go_simp
  refine hK.out _ _ hS (fun hS => ?_)
  clear hK
  refine wpAnyH_ready (rs := [6]) (by kernel_rfl) (by simp) ?_
  refine AllReadyH.cons (o := ⟨some 17, _, _, _, _, _⟩) rfl (fun K hK => ?_) AllReadyH.nil
  go_simp
  refine (HC2.out _).mono ?_
  rintro e wa ⟨rfl, hwa⟩
  have hwa := hwa.symm
  subst hwa
  go_simp
  refine hK.out _ _ hS (fun hS => ?_)
  clear hK
  refine wpAnyH_ready (rs := [9]) (by kernel_rfl) (by simp) ?_
  refine AllReadyH.cons (o := ⟨some 20, _, _, _, _, _⟩) rfl (fun K hK => ?_) AllReadyH.nil
  go_simp
  refine (HC3.out _).mono ?_
  rintro e wa ⟨rfl, hwa⟩
  have hwa := hwa.symm
  subst hwa
  go_simp
  refine hK.out _ _ hS (fun hS => ?_)
  clear hK
  refine wpAnyH_ready (rs := [12]) (by kernel_rfl) (by simp) ?_
  refine AllReadyH.cons (o := ⟨some 23, _, _, _, _, _⟩) rfl (fun K hK => ?_) AllReadyH.nil
  go_simp
  refine (HC4.out _ hS.1).mono ?_
  rintro e wa ⟨rfl, hga⟩
  go_simp
  refine hK.out _ _ ⟨grown_trans hS.1 hga, hga.cell hS.2.1 (by simp), hga.cell hS.2.2.1 (by simp), hga.cell hS.2.2.2.1 (by simp), hga.cell hS.2.2.2.2.1 (by simp), hga.cell hS.2.2.2.2.2.1 (by simp), hga.cell hS.2.2.2.2.2.2.1 (by simp), hga.cell hS.2.2.2.2.2.2.2 (by simp)⟩ (fun hS => ?_)
  clear hK
  refine wpAnyH_ready (rs := [15]) (by kernel_rfl) (by simp) ?_
  refine AllReadyH.cons (o := ⟨some 26, _, _, _, _, _⟩) rfl (fun K hK => ?_) AllReadyH.nil
  go_simp
  refine (HC5.out _ hS.1).mono ?_
  rintro e wa ⟨rfl, hga⟩
  go_simp
  refine hK.out _ _ ⟨grown_trans hS.1 hga, hga.cell hS.2.1 (by simp), hga.cell hS.2.2.1 (by simp), hga.cell hS.2.2.2.1 (by simp), hga.cell hS.2.2.2.2.1 (by simp), hga.cell hS.2.2.2.2.2.1 (by simp), hga.cell hS.2.2.2.2.2.2.1 (by simp), hga.cell hS.2.2.2.2.2.2.2 (by simp)⟩ (fun hS => ?_)
  clear hK
  have HS4 := Lib.hid hS
  refine wpAnyH_ready (rs := [18]) (by kernel_rfl) (by simp) ?_
  refine AllReadyH.cons (o := ⟨some 29, _, _, _, _, _⟩) rfl (fun K hK => ?_) AllReadyH.nil
  go_simp
  refine hK.out _ _ ⟨grown_alloc HS4.out.1 _, (World.grownBy_alloc _ _ none).cell HS4.out.2.1 (by simp), (World.grownBy_alloc _ _ none).cell HS4.out.2.2.1 (by simp), (World.grownBy_alloc _ _ none).cell HS4.out.2.2.2.1 (by simp), (World.grownBy_alloc _ _ none).cell HS4.out.2.2.2.2.1 (by simp), (World.grownBy_alloc _ _ none).cell HS4.out.2.2.2.2.2.1 (by simp), (World.grownBy_alloc _ _ none).cell HS4.out.2.2.2.2.2.2.1 (by simp), (World.grownBy_alloc _ _ none).cell HS4.out.2.2.2.2.2.2.2 (by simp)⟩ (fun hS => ?_)
  clear hK
  refine wpAnyH_ready (rs := [19]) (by kernel_rfl) (by simp) ?_
  refine AllReadyH.cons (o := ⟨some 30, _, _, _, _, _⟩) rfl (fun K hK => ?_) AllReadyH.nil
  go_simp
  refine (HLI.out _ _ (fun j u hu => by rw [Addr.add_mid, Nat.zero_add]; exact (Blk.new _ 9 (strs [T1, T2, T3, D1, D2, tx])).cell hu)).mono ?_
  rintro e wa ⟨rfl, hga⟩
  go_simp
  refine hK.out _ _ ⟨grown_trans hS.1 hga, hga.cell hS.2.1 (by simp), hga.cell hS.2.2.1 (by simp), hga.cell hS.2.2.2.1 (by simp), hga.cell hS.2.2.2.2.1 (by simp), hga.cell hS.2.2.2.2.2.1 (by simp), hga.cell hS.2.2.2.2.2.2.1 (by simp), hga.cell hS.2.2.2.2.2.2.2 (by simp)⟩ (fun hS => ?_)
  clear hK
  refine wpAnyH_take (i := 20) (oi := ⟨some 2, _, _, _, _, _⟩) (v := (.string (writeT 3 tn us sp run num tx))) rfl (by kernel_rfl) (by kernel_rfl) (by kernel_rfl) (fun _ _ _ h => h) (Or.inl ⟨by kernel_rfl, fun w' hSw => ?_⟩) hS ?_
  · go_simp
  simp only [Act.put, List.setIfInBounds_toArray, List.set_cons_zero, List.set_cons_succ]
  refine wpAnyH_done (by kernel_rfl) ?_ _
  go_wp2
  go_ret
  exact ⟨rfl, hS.1⟩

set_option maxRecDepth 100000 in
set_option maxHeartbeats 8000000 in
theorem iwrite_4 (w : World) (hP : Pow w) (tn us sp : ByteArray) (run num : Nat) (tx : ByteArray) (h1 : tn.size ≤ 1048576) (h2 : us.size ≤ 1048576) (h3 : sp.size ≤ 1048576) (h4 : tx.size ≤ 1048576) (hp : ReqP 4 tn us sp run num tx) :
    Calls Tryd.prog 31 #[.agg #[.int .i64 4, .string tn, .string us, .string sp, .int .i64 (run : Int), .int .i64 (num : Int), .string tx]] w fun e w' => e = .returned (.string (writeT 4 tn us sp run num tx)) ∧ w.grownBy w' none := by
  have hrun : run < 4611686018427387904 := by have := hp.2.2.2.2.1.2; omega
  have hnum : num < 4611686018427387904 := by have := hp.2.2.2.2.2.1.2; omega
  obtain ⟨W, hW⟩ : ∃ W, w.alloc (Obj.cells #[Value.int .i64 4, .string tn, .string us, .string sp, .int .i64 (run : Int), .int .i64 (num : Int), .string tx] 31) = W := ⟨_, rfl⟩
  obtain ⟨B, hB⟩ : ∃ B, B = w.heap.size := ⟨_, rfl⟩
  have HB := Lib.hid (show Blk W B 31 [.int .i64 4, .string tn, .string us, .string sp, .int .i64 (run : Int), .int .i64 (num : Int), .string tx] from by rw [← hW, hB]; exact Blk.new w 31 _)
  have HG := Lib.hid (show w.grownBy W none from by rw [← hW]; exact grown_alloc (grown_refl _ _) _)
  have HW := Lib.hid hW
  have HBE := Lib.hid hB
  have HRQ := Lib.hid ((ireq_any W 4 tn us sp run num tx h1 h2 h3 h4).mono (R' := fun e w' => e = .returned (.bool true) ∧ W.grownBy w' none) (fun e w' q => ⟨q.1.is_yes hp, q.2⟩))
  have z1 : (wordT tn).size ≤ 7 := wordT_size tn hp.1
  have z2 : (wordT us).size ≤ 7 := wordT_size us hp.2.1
  have z3 : (wordT sp).size ≤ 7 := wordT_size sp hp.2.2.1
  have z4 : (decS run).size ≤ 21 := decS_size run hrun
  have z5 : (decS num).size ≤ 21 := decS_size num hnum
  have HJW := Lib.hid (joinT_write 4 tn us sp run num tx)
  have HLN := Lib.hid (show (Lib.join ((kindW 4 :: [wordT tn, wordT us, wordT sp, decS run, decS num, tx]).map (·.data.toList)) [32]).length ≤ 140737488355328 from by
    have s7 : (kindW 4).size ≤ 7 := kindW_size 4 (by decide)
    simp [Lib.join]
    omega)
  obtain ⟨T1, hT1⟩ : ∃ K, wordT tn = K := ⟨_, rfl⟩
  obtain ⟨T2, hT2⟩ : ∃ K, wordT us = K := ⟨_, rfl⟩
  obtain ⟨T3, hT3⟩ : ∃ K, wordT sp = K := ⟨_, rfl⟩
  obtain ⟨D1, hD1⟩ : ∃ K, decS run = K := ⟨_, rfl⟩
  obtain ⟨D2, hD2⟩ : ∃ K, decS num = K := ⟨_, rfl⟩
  have HALL := Lib.hid (fun (V : World) (hV : w.grownBy V none ∧ W.grownBy V none) => show w.grownBy V none ∧ V.cell? ⟨B, 0, none⟩ = some (.int .i64 4) ∧ V.cell? ⟨B, 1, none⟩ = some (.string tn) ∧ V.cell? ⟨B, 2, none⟩ = some (.string us) ∧ V.cell? ⟨B, 3, none⟩ = some (.string sp) ∧ V.cell? ⟨B, 4, none⟩ = some (.int .i64 (run : Int)) ∧ V.cell? ⟨B, 5, none⟩ = some (.int .i64 (num : Int)) ∧ V.cell? ⟨B, 6, none⟩ = some (.string tx) from ⟨hV.1, hV.2.cell (HB.out.cell rfl) (by simp), hV.2.cell (HB.out.cell rfl) (by simp), hV.2.cell (HB.out.cell rfl) (by simp), hV.2.cell (HB.out.cell rfl) (by simp), hV.2.cell (HB.out.cell rfl) (by simp), hV.2.cell (HB.out.cell rfl) (by simp), hV.2.cell (HB.out.cell rfl) (by simp)⟩)
  have HPW := Lib.hid (fun (V : World) (hV : w.grownBy V none) => hP.grown hV)
  have HC1 := Lib.hid (fun (V : World) => (iword_any V tn).mono (R' := fun e w' => e = .returned (.string T1) ∧ w' = V) (fun e w' q => ⟨by rw [q.1, hT1], q.2⟩))
  have HC2 := Lib.hid (fun (V : World) => (iword_any V us).mono (R' := fun e w' => e = .returned (.string T2) ∧ w' = V) (fun e w' q => ⟨by rw [q.1, hT2], q.2⟩))
  have HC3 := Lib.hid (fun (V : World) => (iword_any V sp).mono (R' := fun e w' => e = .returned (.string T3) ∧ w' = V) (fun e w' q => ⟨by rw [q.1, hT3], q.2⟩))
  have HC4 := Lib.hid (fun (V : World) (hV : w.grownBy V none) => (itoa_nat run (by omega) V (HPW.out V hV)).mono (R' := fun e w' => e = .returned (.string D1) ∧ V.grownBy w' none) (fun e w' q => ⟨by rw [q.1, hD1], q.2⟩))
  have HC5 := Lib.hid (fun (V : World) (hV : w.grownBy V none) => (itoa_nat num (by omega) V (HPW.out V hV)).mono (R' := fun e w' => e = .returned (.string D2) ∧ V.grownBy w' none) (fun e w' q => ⟨by rw [q.1, hD2], q.2⟩))
  have HKL := Lib.hid (fun (V : World) => ikinds_any V)
  rw [hT1, hT2, hT3, hD1, hD2] at HJW HLN
  have HLI := Lib.hid (fun (V : World) (g : Nat) (hg : At V ⟨g, 0, none⟩ [T1, T2, T3, D1, D2, tx]) => (line_any V (kindW 4) g 0 6 [T1, T2, T3, D1, D2, tx] hg (by simp) HLN.out).mono (R' := fun e w' => e = .returned (.string (writeT 4 tn us sp run num tx)) ∧ V.grownBy w' none) (fun e w' q => ⟨by rw [q.1, HJW.out], q.2⟩))
  clear hp hP hW hB h1 h2 h3 h4 hT1 hT2 hT3 hD1 hD2 z1 z2 z3 z4 z5 hrun hnum HJW HLN
  go_enter Tryd.func31, Tryd.ntmps31
  go_wp2_with fail
  rw [HW.out]
  refine HRQ.out.mono ?_
  rintro e w1 ⟨rfl, hg1⟩
  have HG1 := Lib.hid (grown_trans HG.out hg1)
  have HX1 := Lib.hid hg1
  clear hg1 HRQ
  go_wp2
  rw [← HBE.out]
  refine wp_region_held_drew (S := fun w' => w.grownBy w' none ∧ w'.cell? ⟨B, 0, none⟩ = some (.int .i64 4) ∧ w'.cell? ⟨B, 1, none⟩ = some (.string tn) ∧ w'.cell? ⟨B, 2, none⟩ = some (.string us) ∧ w'.cell? ⟨B, 3, none⟩ = some (.string sp) ∧ w'.cell? ⟨B, 4, none⟩ = some (.int .i64 (run : Int)) ∧ w'.cell? ⟨B, 5, none⟩ = some (.int .i64 (num : Int)) ∧ w'.cell? ⟨B, 6, none⟩ = some (.string tx)) (by kernel_rfl) (HALL.out _ ⟨grown_drew HG1.out, grown_drew HX1.out⟩) (fun hS => ?_)
  refine wpAnyH_take (i := 1) (oi := ⟨some 8, _, _, _, _, _⟩) (v := (.pointer (some ⟨B, 0, none⟩))) rfl (by kernel_rfl) (by kernel_rfl) (by kernel_rfl) (fun _ _ _ h => h) (Or.inl ⟨by kernel_rfl, fun w' hSw => ?_⟩) hS ?_
  · go_simp
    all_goals first | rfl | (simp [*]; done) | (simp [kindsC]; done) | kernel_rfl
  simp only [Act.put, List.setIfInBounds_toArray, List.set_cons_zero, List.set_cons_succ]
  refine wpAnyH_take (i := 2) (oi := ⟨some 9, _, _, _, _, _⟩) (v := (.int .i64 4)) rfl (by kernel_rfl) (by kernel_rfl) (by kernel_rfl) (fun _ _ _ h => h) (Or.inl ⟨by kernel_rfl, fun w' hSw => ?_⟩) hS ?_
  · obtain ⟨s1, s2, s3, s4, s5, s6, s7, s8⟩ := hSw
    go_simp
    all_goals first | rfl | (simp [*]; done) | (simp [kindsC]; done) | kernel_rfl
  simp only [Act.put, List.setIfInBounds_toArray, List.set_cons_zero, List.set_cons_succ]
  refine wpAnyH_ready (rs := [0]) (by kernel_rfl) (by simp) ?_
  refine AllReadyH.cons (o := ⟨some 7, _, _, _, _, _⟩) rfl (fun K hK => ?_) AllReadyH.nil
  go_simp
  refine (HKL.out _).mono ?_
  rintro e wa ⟨rfl, hga⟩
  go_simp
  refine hK.out _ _ ⟨grown_trans hS.1 hga, hga.cell hS.2.1 (by simp), hga.cell hS.2.2.1 (by simp), hga.cell hS.2.2.2.1 (by simp), hga.cell hS.2.2.2.2.1 (by simp), hga.cell hS.2.2.2.2.2.1 (by simp), hga.cell hS.2.2.2.2.2.2.1 (by simp), hga.cell hS.2.2.2.2.2.2.2 (by simp)⟩ (fun hS => ?_)
  clear hK
  refine wpAnyH_take (i := 3) (oi := ⟨some 10, _, _, _, _, _⟩) (v := (.func (.func 60) #[.string ⟨#[115, 112, 97, 99, 101]⟩] #[])) rfl (by kernel_rfl) (by kernel_rfl) (by kernel_rfl) (fun _ _ _ h => h) (Or.inl ⟨by kernel_rfl, fun w' hSw => ?_⟩) hS ?_
  · go_simp
    all_goals first | rfl | (simp [*]; done) | (simp [kindsC]; done) | kernel_rfl
  simp only [Act.put, List.setIfInBounds_toArray, List.set_cons_zero, List.set_cons_succ]
  refine wpAnyH_take (i := 4) (oi := ⟨some 3, _, _, _, _, _⟩) (v := (.func (.func 60) #[.string ⟨#[115, 112, 97, 99, 101]⟩] #[])) rfl (by kernel_rfl) (by kernel_rfl) (by kernel_rfl) (fun _ _ _ h => h) (Or.inl ⟨by kernel_rfl, fun w' hSw => ?_⟩) hS ?_
  · go_simp
    all_goals first | rfl | (simp [*]; done) | (simp [kindsC]; done) | kernel_rfl
  simp only [Act.put, List.setIfInBounds_toArray, List.set_cons_zero, List.set_cons_succ]
  refine wpAnyH_done (by kernel_rfl) ?_ _
  have HS3 := Lib.hid hS
  go_wp2
  refine wp_region_held_drew (S := fun w' => w.grownBy w' none ∧ w'.cell? ⟨B, 0, none⟩ = some (.int .i64 4) ∧ w'.cell? ⟨B, 1, none⟩ = some (.string tn) ∧ w'.cell? ⟨B, 2, none⟩ = some (.string us) ∧ w'.cell? ⟨B, 3, none⟩ = some (.string sp) ∧ w'.cell? ⟨B, 4, none⟩ = some (.int .i64 (run : Int)) ∧ w'.cell? ⟨B, 5, none⟩ = some (.int .i64 (num : Int)) ∧ w'.cell? ⟨B, 6, none⟩ = some (.string tx)) (by kernel_rfl) (⟨grown_drew HS3.out.1, HS3.out.2⟩) (fun hS => ?_)
  refine wpAnyH_take (i := 0) (oi := ⟨some 11, _, _, _, _, _⟩) (v := (.func (.func 60) #[.string ⟨#[115, 112, 97, 99, 101]⟩] #[])) rfl (by kernel_rfl) (by kernel_rfl) (by kernel_rfl) (fun _ _ _ h => h) (Or.inl ⟨by kernel_rfl, fun w' hSw => ?_⟩) hS ?_
  · go_simp
    all_goals first | rfl | (simp [*]; done)
  simp only [Act.put, List.setIfInBounds_toArray, List.set_cons_zero, List.set_cons_succ]
  refine wpAnyH_take (i := 1) (oi := ⟨some 12, _, _, _, _, _⟩) (v := (.pointer (some ⟨B, 1, none⟩))) rfl (by kernel_rfl) (by kernel_rfl) (by kernel_rfl) (fun _ _ _ h => h) (Or.inl ⟨by kernel_rfl, fun w' hSw => ?_⟩) hS ?_
  · go_simp
    all_goals first | rfl | (simp [*]; done)
  simp only [Act.put, List.setIfInBounds_toArray, List.set_cons_zero, List.set_cons_succ]
  refine wpAnyH_take (i := 2) (oi := ⟨some 13, _, _, _, _, _⟩) (v := (.string tn)) rfl (by kernel_rfl) (by kernel_rfl) (by kernel_rfl) (fun _ _ _ h => h) (Or.inl ⟨by kernel_rfl, fun w' hSw => ?_⟩) hS ?_
  · obtain ⟨s1, s2, s3, s4, s5, s6, s7, s8⟩ := hSw
    go_simp
    all_goals first | rfl | (simp [*]; done)
  simp only [Act.put, List.setIfInBounds_toArray, List.set_cons_zero, List.set_cons_succ]
  refine wpAnyH_take (i := 4) (oi := ⟨some 15, _, _, _, _, _⟩) (v := (.pointer (some ⟨B, 2, none⟩))) rfl (by kernel_rfl) (by kernel_rfl) (by kernel_rfl) (fun _ _ _ h => h) (Or.inl ⟨by kernel_rfl, fun w' hSw => ?_⟩) hS ?_
  · go_simp
    all_goals first | rfl | (simp [*]; done)
  simp only [Act.put, List.setIfInBounds_toArray, List.set_cons_zero, List.set_cons_succ]
  refine wpAnyH_take (i := 5) (oi := ⟨some 16, _, _, _, _, _⟩) (v := (.string us)) rfl (by kernel_rfl) (by kernel_rfl) (by kernel_rfl) (fun _ _ _ h => h) (Or.inl ⟨by kernel_rfl, fun w' hSw => ?_⟩) hS ?_
  · obtain ⟨s1, s2, s3, s4, s5, s6, s7, s8⟩ := hSw
    go_simp
    all_goals first | rfl | (simp [*]; done)
  simp only [Act.put, List.setIfInBounds_toArray, List.set_cons_zero, List.set_cons_succ]
  refine wpAnyH_take (i := 7) (oi := ⟨some 18, _, _, _, _, _⟩) (v := (.pointer (some ⟨B, 3, none⟩))) rfl (by kernel_rfl) (by kernel_rfl) (by kernel_rfl) (fun _ _ _ h => h) (Or.inl ⟨by kernel_rfl, fun w' hSw => ?_⟩) hS ?_
  · go_simp
    all_goals first | rfl | (simp [*]; done)
  simp only [Act.put, List.setIfInBounds_toArray, List.set_cons_zero, List.set_cons_succ]
  refine wpAnyH_take (i := 8) (oi := ⟨some 19, _, _, _, _, _⟩) (v := (.string sp)) rfl (by kernel_rfl) (by kernel_rfl) (by kernel_rfl) (fun _ _ _ h => h) (Or.inl ⟨by kernel_rfl, fun w' hSw => ?_⟩) hS ?_
  · obtain ⟨s1, s2, s3, s4, s5, s6, s7, s8⟩ := hSw
    go_simp
    all_goals first | rfl | (simp [*]; done)
  simp only [Act.put, List.setIfInBounds_toArray, List.set_cons_zero, List.set_cons_succ]
  refine wpAnyH_take (i := 10) (oi := ⟨some 21, _, _, _, _, _⟩) (v := (.pointer (some ⟨B, 4, none⟩))) rfl (by kernel_rfl) (by kernel_rfl) (by kernel_rfl) (fun _ _ _ h => h) (Or.inl ⟨by kernel_rfl, fun w' hSw => ?_⟩) hS ?_
  · go_simp
    all_goals first | rfl | (simp [*]; done)
  simp only [Act.put, List.setIfInBounds_toArray, List.set_cons_zero, List.set_cons_succ]
  refine wpAnyH_take (i := 11) (oi := ⟨some 22, _, _, _, _, _⟩) (v := (.int .i64 (run : Int))) rfl (by kernel_rfl) (by kernel_rfl) (by kernel_rfl) (fun _ _ _ h => h) (Or.inl ⟨by kernel_rfl, fun w' hSw => ?_⟩) hS ?_
  · obtain ⟨s1, s2, s3, s4, s5, s6, s7, s8⟩ := hSw
    go_simp
    all_goals first | rfl | (simp [*]; done)
  simp only [Act.put, List.setIfInBounds_toArray, List.set_cons_zero, List.set_cons_succ]
  refine wpAnyH_take (i := 13) (oi := ⟨some 24, _, _, _, _, _⟩) (v := (.pointer (some ⟨B, 5, none⟩))) rfl (by kernel_rfl) (by kernel_rfl) (by kernel_rfl) (fun _ _ _ h => h) (Or.inl ⟨by kernel_rfl, fun w' hSw => ?_⟩) hS ?_
  · go_simp
    all_goals first | rfl | (simp [*]; done)
  simp only [Act.put, List.setIfInBounds_toArray, List.set_cons_zero, List.set_cons_succ]
  refine wpAnyH_take (i := 14) (oi := ⟨some 25, _, _, _, _, _⟩) (v := (.int .i64 (num : Int))) rfl (by kernel_rfl) (by kernel_rfl) (by kernel_rfl) (fun _ _ _ h => h) (Or.inl ⟨by kernel_rfl, fun w' hSw => ?_⟩) hS ?_
  · obtain ⟨s1, s2, s3, s4, s5, s6, s7, s8⟩ := hSw
    go_simp
    all_goals first | rfl | (simp [*]; done)
  simp only [Act.put, List.setIfInBounds_toArray, List.set_cons_zero, List.set_cons_succ]
  refine wpAnyH_take (i := 16) (oi := ⟨some 27, _, _, _, _, _⟩) (v := (.pointer (some ⟨B, 6, none⟩))) rfl (by kernel_rfl) (by kernel_rfl) (by kernel_rfl) (fun _ _ _ h => h) (Or.inl ⟨by kernel_rfl, fun w' hSw => ?_⟩) hS ?_
  · go_simp
    all_goals first | rfl | (simp [*]; done)
  simp only [Act.put, List.setIfInBounds_toArray, List.set_cons_zero, List.set_cons_succ]
  refine wpAnyH_take (i := 17) (oi := ⟨some 28, _, _, _, _, _⟩) (v := (.string tx)) rfl (by kernel_rfl) (by kernel_rfl) (by kernel_rfl) (fun _ _ _ h => h) (Or.inl ⟨by kernel_rfl, fun w' hSw => ?_⟩) hS ?_
  · obtain ⟨s1, s2, s3, s4, s5, s6, s7, s8⟩ := hSw
    go_simp
    all_goals first | rfl | (simp [*]; done)
  simp only [Act.put, List.setIfInBounds_toArray, List.set_cons_zero, List.set_cons_succ]
  refine wpAnyH_ready (rs := [3]) (by kernel_rfl) (by simp) ?_
  refine AllReadyH.cons (o := ⟨some 14, _, _, _, _, _⟩) rfl (fun K hK => ?_) AllReadyH.nil
  go_simp
  refine (HC1.out _).mono ?_
  rintro e wa ⟨rfl, hwa⟩
  have hwa := hwa.symm
  subst hwa
  go_simp
  refine hK.out _ _ hS (fun hS => ?_)
  clear hK
  refine wpAnyH_ready (rs := [6]) (by kernel_rfl) (by simp) ?_
  refine AllReadyH.cons (o := ⟨some 17, _, _, _, _, _⟩) rfl (fun K hK => ?_) AllReadyH.nil
  go_simp
  refine (HC2.out _).mono ?_
  rintro e wa ⟨rfl, hwa⟩
  have hwa := hwa.symm
  subst hwa
  go_simp
  refine hK.out _ _ hS (fun hS => ?_)
  clear hK
  refine wpAnyH_ready (rs := [9]) (by kernel_rfl) (by simp) ?_
  refine AllReadyH.cons (o := ⟨some 20, _, _, _, _, _⟩) rfl (fun K hK => ?_) AllReadyH.nil
  go_simp
  refine (HC3.out _).mono ?_
  rintro e wa ⟨rfl, hwa⟩
  have hwa := hwa.symm
  subst hwa
  go_simp
  refine hK.out _ _ hS (fun hS => ?_)
  clear hK
  refine wpAnyH_ready (rs := [12]) (by kernel_rfl) (by simp) ?_
  refine AllReadyH.cons (o := ⟨some 23, _, _, _, _, _⟩) rfl (fun K hK => ?_) AllReadyH.nil
  go_simp
  refine (HC4.out _ hS.1).mono ?_
  rintro e wa ⟨rfl, hga⟩
  go_simp
  refine hK.out _ _ ⟨grown_trans hS.1 hga, hga.cell hS.2.1 (by simp), hga.cell hS.2.2.1 (by simp), hga.cell hS.2.2.2.1 (by simp), hga.cell hS.2.2.2.2.1 (by simp), hga.cell hS.2.2.2.2.2.1 (by simp), hga.cell hS.2.2.2.2.2.2.1 (by simp), hga.cell hS.2.2.2.2.2.2.2 (by simp)⟩ (fun hS => ?_)
  clear hK
  refine wpAnyH_ready (rs := [15]) (by kernel_rfl) (by simp) ?_
  refine AllReadyH.cons (o := ⟨some 26, _, _, _, _, _⟩) rfl (fun K hK => ?_) AllReadyH.nil
  go_simp
  refine (HC5.out _ hS.1).mono ?_
  rintro e wa ⟨rfl, hga⟩
  go_simp
  refine hK.out _ _ ⟨grown_trans hS.1 hga, hga.cell hS.2.1 (by simp), hga.cell hS.2.2.1 (by simp), hga.cell hS.2.2.2.1 (by simp), hga.cell hS.2.2.2.2.1 (by simp), hga.cell hS.2.2.2.2.2.1 (by simp), hga.cell hS.2.2.2.2.2.2.1 (by simp), hga.cell hS.2.2.2.2.2.2.2 (by simp)⟩ (fun hS => ?_)
  clear hK
  have HS4 := Lib.hid hS
  refine wpAnyH_ready (rs := [18]) (by kernel_rfl) (by simp) ?_
  refine AllReadyH.cons (o := ⟨some 29, _, _, _, _, _⟩) rfl (fun K hK => ?_) AllReadyH.nil
  go_simp
  refine hK.out _ _ ⟨grown_alloc HS4.out.1 _, (World.grownBy_alloc _ _ none).cell HS4.out.2.1 (by simp), (World.grownBy_alloc _ _ none).cell HS4.out.2.2.1 (by simp), (World.grownBy_alloc _ _ none).cell HS4.out.2.2.2.1 (by simp), (World.grownBy_alloc _ _ none).cell HS4.out.2.2.2.2.1 (by simp), (World.grownBy_alloc _ _ none).cell HS4.out.2.2.2.2.2.1 (by simp), (World.grownBy_alloc _ _ none).cell HS4.out.2.2.2.2.2.2.1 (by simp), (World.grownBy_alloc _ _ none).cell HS4.out.2.2.2.2.2.2.2 (by simp)⟩ (fun hS => ?_)
  clear hK
  refine wpAnyH_ready (rs := [19]) (by kernel_rfl) (by simp) ?_
  refine AllReadyH.cons (o := ⟨some 30, _, _, _, _, _⟩) rfl (fun K hK => ?_) AllReadyH.nil
  go_simp
  refine (HLI.out _ _ (fun j u hu => by rw [Addr.add_mid, Nat.zero_add]; exact (Blk.new _ 9 (strs [T1, T2, T3, D1, D2, tx])).cell hu)).mono ?_
  rintro e wa ⟨rfl, hga⟩
  go_simp
  refine hK.out _ _ ⟨grown_trans hS.1 hga, hga.cell hS.2.1 (by simp), hga.cell hS.2.2.1 (by simp), hga.cell hS.2.2.2.1 (by simp), hga.cell hS.2.2.2.2.1 (by simp), hga.cell hS.2.2.2.2.2.1 (by simp), hga.cell hS.2.2.2.2.2.2.1 (by simp), hga.cell hS.2.2.2.2.2.2.2 (by simp)⟩ (fun hS => ?_)
  clear hK
  refine wpAnyH_take (i := 20) (oi := ⟨some 2, _, _, _, _, _⟩) (v := (.string (writeT 4 tn us sp run num tx))) rfl (by kernel_rfl) (by kernel_rfl) (by kernel_rfl) (fun _ _ _ h => h) (Or.inl ⟨by kernel_rfl, fun w' hSw => ?_⟩) hS ?_
  · go_simp
  simp only [Act.put, List.setIfInBounds_toArray, List.set_cons_zero, List.set_cons_succ]
  refine wpAnyH_done (by kernel_rfl) ?_ _
  go_wp2
  go_ret
  exact ⟨rfl, hS.1⟩

set_option maxRecDepth 100000 in
set_option maxHeartbeats 8000000 in
theorem iwrite_5 (w : World) (hP : Pow w) (tn us sp : ByteArray) (run num : Nat) (tx : ByteArray) (h1 : tn.size ≤ 1048576) (h2 : us.size ≤ 1048576) (h3 : sp.size ≤ 1048576) (h4 : tx.size ≤ 1048576) (hp : ReqP 5 tn us sp run num tx) :
    Calls Tryd.prog 31 #[.agg #[.int .i64 5, .string tn, .string us, .string sp, .int .i64 (run : Int), .int .i64 (num : Int), .string tx]] w fun e w' => e = .returned (.string (writeT 5 tn us sp run num tx)) ∧ w.grownBy w' none := by
  have hrun : run < 4611686018427387904 := by have := hp.2.2.2.2.1.2; omega
  have hnum : num < 4611686018427387904 := by have := hp.2.2.2.2.2.1.2; omega
  obtain ⟨W, hW⟩ : ∃ W, w.alloc (Obj.cells #[Value.int .i64 5, .string tn, .string us, .string sp, .int .i64 (run : Int), .int .i64 (num : Int), .string tx] 31) = W := ⟨_, rfl⟩
  obtain ⟨B, hB⟩ : ∃ B, B = w.heap.size := ⟨_, rfl⟩
  have HB := Lib.hid (show Blk W B 31 [.int .i64 5, .string tn, .string us, .string sp, .int .i64 (run : Int), .int .i64 (num : Int), .string tx] from by rw [← hW, hB]; exact Blk.new w 31 _)
  have HG := Lib.hid (show w.grownBy W none from by rw [← hW]; exact grown_alloc (grown_refl _ _) _)
  have HW := Lib.hid hW
  have HBE := Lib.hid hB
  have HRQ := Lib.hid ((ireq_any W 5 tn us sp run num tx h1 h2 h3 h4).mono (R' := fun e w' => e = .returned (.bool true) ∧ W.grownBy w' none) (fun e w' q => ⟨q.1.is_yes hp, q.2⟩))
  have z1 : (wordT tn).size ≤ 7 := wordT_size tn hp.1
  have z2 : (wordT us).size ≤ 7 := wordT_size us hp.2.1
  have z3 : (wordT sp).size ≤ 7 := wordT_size sp hp.2.2.1
  have z4 : (decS run).size ≤ 21 := decS_size run hrun
  have z5 : (decS num).size ≤ 21 := decS_size num hnum
  have HJW := Lib.hid (joinT_write 5 tn us sp run num tx)
  have HLN := Lib.hid (show (Lib.join ((kindW 5 :: [wordT tn, wordT us, wordT sp, decS run, decS num, tx]).map (·.data.toList)) [32]).length ≤ 140737488355328 from by
    have s7 : (kindW 5).size ≤ 7 := kindW_size 5 (by decide)
    simp [Lib.join]
    omega)
  obtain ⟨T1, hT1⟩ : ∃ K, wordT tn = K := ⟨_, rfl⟩
  obtain ⟨T2, hT2⟩ : ∃ K, wordT us = K := ⟨_, rfl⟩
  obtain ⟨T3, hT3⟩ : ∃ K, wordT sp = K := ⟨_, rfl⟩
  obtain ⟨D1, hD1⟩ : ∃ K, decS run = K := ⟨_, rfl⟩
  obtain ⟨D2, hD2⟩ : ∃ K, decS num = K := ⟨_, rfl⟩
  have HALL := Lib.hid (fun (V : World) (hV : w.grownBy V none ∧ W.grownBy V none) => show w.grownBy V none ∧ V.cell? ⟨B, 0, none⟩ = some (.int .i64 5) ∧ V.cell? ⟨B, 1, none⟩ = some (.string tn) ∧ V.cell? ⟨B, 2, none⟩ = some (.string us) ∧ V.cell? ⟨B, 3, none⟩ = some (.string sp) ∧ V.cell? ⟨B, 4, none⟩ = some (.int .i64 (run : Int)) ∧ V.cell? ⟨B, 5, none⟩ = some (.int .i64 (num : Int)) ∧ V.cell? ⟨B, 6, none⟩ = some (.string tx) from ⟨hV.1, hV.2.cell (HB.out.cell rfl) (by simp), hV.2.cell (HB.out.cell rfl) (by simp), hV.2.cell (HB.out.cell rfl) (by simp), hV.2.cell (HB.out.cell rfl) (by simp), hV.2.cell (HB.out.cell rfl) (by simp), hV.2.cell (HB.out.cell rfl) (by simp), hV.2.cell (HB.out.cell rfl) (by simp)⟩)
  have HPW := Lib.hid (fun (V : World) (hV : w.grownBy V none) => hP.grown hV)
  have HC1 := Lib.hid (fun (V : World) => (iword_any V tn).mono (R' := fun e w' => e = .returned (.string T1) ∧ w' = V) (fun e w' q => ⟨by rw [q.1, hT1], q.2⟩))
  have HC2 := Lib.hid (fun (V : World) => (iword_any V us).mono (R' := fun e w' => e = .returned (.string T2) ∧ w' = V) (fun e w' q => ⟨by rw [q.1, hT2], q.2⟩))
  have HC3 := Lib.hid (fun (V : World) => (iword_any V sp).mono (R' := fun e w' => e = .returned (.string T3) ∧ w' = V) (fun e w' q => ⟨by rw [q.1, hT3], q.2⟩))
  have HC4 := Lib.hid (fun (V : World) (hV : w.grownBy V none) => (itoa_nat run (by omega) V (HPW.out V hV)).mono (R' := fun e w' => e = .returned (.string D1) ∧ V.grownBy w' none) (fun e w' q => ⟨by rw [q.1, hD1], q.2⟩))
  have HC5 := Lib.hid (fun (V : World) (hV : w.grownBy V none) => (itoa_nat num (by omega) V (HPW.out V hV)).mono (R' := fun e w' => e = .returned (.string D2) ∧ V.grownBy w' none) (fun e w' q => ⟨by rw [q.1, hD2], q.2⟩))
  have HKL := Lib.hid (fun (V : World) => ikinds_any V)
  rw [hT1, hT2, hT3, hD1, hD2] at HJW HLN
  have HLI := Lib.hid (fun (V : World) (g : Nat) (hg : At V ⟨g, 0, none⟩ [T1, T2, T3, D1, D2, tx]) => (line_any V (kindW 5) g 0 6 [T1, T2, T3, D1, D2, tx] hg (by simp) HLN.out).mono (R' := fun e w' => e = .returned (.string (writeT 5 tn us sp run num tx)) ∧ V.grownBy w' none) (fun e w' q => ⟨by rw [q.1, HJW.out], q.2⟩))
  clear hp hP hW hB h1 h2 h3 h4 hT1 hT2 hT3 hD1 hD2 z1 z2 z3 z4 z5 hrun hnum HJW HLN
  go_enter Tryd.func31, Tryd.ntmps31
  go_wp2_with fail
  rw [HW.out]
  refine HRQ.out.mono ?_
  rintro e w1 ⟨rfl, hg1⟩
  have HG1 := Lib.hid (grown_trans HG.out hg1)
  have HX1 := Lib.hid hg1
  clear hg1 HRQ
  go_wp2
  rw [← HBE.out]
  refine wp_region_held_drew (S := fun w' => w.grownBy w' none ∧ w'.cell? ⟨B, 0, none⟩ = some (.int .i64 5) ∧ w'.cell? ⟨B, 1, none⟩ = some (.string tn) ∧ w'.cell? ⟨B, 2, none⟩ = some (.string us) ∧ w'.cell? ⟨B, 3, none⟩ = some (.string sp) ∧ w'.cell? ⟨B, 4, none⟩ = some (.int .i64 (run : Int)) ∧ w'.cell? ⟨B, 5, none⟩ = some (.int .i64 (num : Int)) ∧ w'.cell? ⟨B, 6, none⟩ = some (.string tx)) (by kernel_rfl) (HALL.out _ ⟨grown_drew HG1.out, grown_drew HX1.out⟩) (fun hS => ?_)
  refine wpAnyH_take (i := 1) (oi := ⟨some 8, _, _, _, _, _⟩) (v := (.pointer (some ⟨B, 0, none⟩))) rfl (by kernel_rfl) (by kernel_rfl) (by kernel_rfl) (fun _ _ _ h => h) (Or.inl ⟨by kernel_rfl, fun w' hSw => ?_⟩) hS ?_
  · go_simp
    all_goals first | rfl | (simp [*]; done) | (simp [kindsC]; done) | kernel_rfl
  simp only [Act.put, List.setIfInBounds_toArray, List.set_cons_zero, List.set_cons_succ]
  refine wpAnyH_take (i := 2) (oi := ⟨some 9, _, _, _, _, _⟩) (v := (.int .i64 5)) rfl (by kernel_rfl) (by kernel_rfl) (by kernel_rfl) (fun _ _ _ h => h) (Or.inl ⟨by kernel_rfl, fun w' hSw => ?_⟩) hS ?_
  · obtain ⟨s1, s2, s3, s4, s5, s6, s7, s8⟩ := hSw
    go_simp
    all_goals first | rfl | (simp [*]; done) | (simp [kindsC]; done) | kernel_rfl
  simp only [Act.put, List.setIfInBounds_toArray, List.set_cons_zero, List.set_cons_succ]
  refine wpAnyH_ready (rs := [0]) (by kernel_rfl) (by simp) ?_
  refine AllReadyH.cons (o := ⟨some 7, _, _, _, _, _⟩) rfl (fun K hK => ?_) AllReadyH.nil
  go_simp
  refine (HKL.out _).mono ?_
  rintro e wa ⟨rfl, hga⟩
  go_simp
  refine hK.out _ _ ⟨grown_trans hS.1 hga, hga.cell hS.2.1 (by simp), hga.cell hS.2.2.1 (by simp), hga.cell hS.2.2.2.1 (by simp), hga.cell hS.2.2.2.2.1 (by simp), hga.cell hS.2.2.2.2.2.1 (by simp), hga.cell hS.2.2.2.2.2.2.1 (by simp), hga.cell hS.2.2.2.2.2.2.2 (by simp)⟩ (fun hS => ?_)
  clear hK
  refine wpAnyH_take (i := 3) (oi := ⟨some 10, _, _, _, _, _⟩) (v := (.func (.func 60) #[.string ⟨#[99, 111, 110, 102]⟩] #[])) rfl (by kernel_rfl) (by kernel_rfl) (by kernel_rfl) (fun _ _ _ h => h) (Or.inl ⟨by kernel_rfl, fun w' hSw => ?_⟩) hS ?_
  · go_simp
    all_goals first | rfl | (simp [*]; done) | (simp [kindsC]; done) | kernel_rfl
  simp only [Act.put, List.setIfInBounds_toArray, List.set_cons_zero, List.set_cons_succ]
  refine wpAnyH_take (i := 4) (oi := ⟨some 3, _, _, _, _, _⟩) (v := (.func (.func 60) #[.string ⟨#[99, 111, 110, 102]⟩] #[])) rfl (by kernel_rfl) (by kernel_rfl) (by kernel_rfl) (fun _ _ _ h => h) (Or.inl ⟨by kernel_rfl, fun w' hSw => ?_⟩) hS ?_
  · go_simp
    all_goals first | rfl | (simp [*]; done) | (simp [kindsC]; done) | kernel_rfl
  simp only [Act.put, List.setIfInBounds_toArray, List.set_cons_zero, List.set_cons_succ]
  refine wpAnyH_done (by kernel_rfl) ?_ _
  have HS3 := Lib.hid hS
  go_wp2
  refine wp_region_held_drew (S := fun w' => w.grownBy w' none ∧ w'.cell? ⟨B, 0, none⟩ = some (.int .i64 5) ∧ w'.cell? ⟨B, 1, none⟩ = some (.string tn) ∧ w'.cell? ⟨B, 2, none⟩ = some (.string us) ∧ w'.cell? ⟨B, 3, none⟩ = some (.string sp) ∧ w'.cell? ⟨B, 4, none⟩ = some (.int .i64 (run : Int)) ∧ w'.cell? ⟨B, 5, none⟩ = some (.int .i64 (num : Int)) ∧ w'.cell? ⟨B, 6, none⟩ = some (.string tx)) (by kernel_rfl) (⟨grown_drew HS3.out.1, HS3.out.2⟩) (fun hS => ?_)
  refine wpAnyH_take (i := 0) (oi := ⟨some 11, _, _, _, _, _⟩) (v := (.func (.func 60) #[.string ⟨#[99, 111, 110, 102]⟩] #[])) rfl (by kernel_rfl) (by kernel_rfl) (by kernel_rfl) (fun _ _ _ h => h) (Or.inl ⟨by kernel_rfl, fun w' hSw => ?_⟩) hS ?_
  · go_simp
    all_goals first | rfl | (simp [*]; done)
  simp only [Act.put, List.setIfInBounds_toArray, List.set_cons_zero, List.set_cons_succ]
  refine wpAnyH_take (i := 1) (oi := ⟨some 12, _, _, _, _, _⟩) (v := (.pointer (some ⟨B, 1, none⟩))) rfl (by kernel_rfl) (by kernel_rfl) (by kernel_rfl) (fun _ _ _ h => h) (Or.inl ⟨by kernel_rfl, fun w' hSw => ?_⟩) hS ?_
  · go_simp
    all_goals first | rfl | (simp [*]; done)
  simp only [Act.put, List.setIfInBounds_toArray, List.set_cons_zero, List.set_cons_succ]
  refine wpAnyH_take (i := 2) (oi := ⟨some 13, _, _, _, _, _⟩) (v := (.string tn)) rfl (by kernel_rfl) (by kernel_rfl) (by kernel_rfl) (fun _ _ _ h => h) (Or.inl ⟨by kernel_rfl, fun w' hSw => ?_⟩) hS ?_
  · obtain ⟨s1, s2, s3, s4, s5, s6, s7, s8⟩ := hSw
    go_simp
    all_goals first | rfl | (simp [*]; done)
  simp only [Act.put, List.setIfInBounds_toArray, List.set_cons_zero, List.set_cons_succ]
  refine wpAnyH_take (i := 4) (oi := ⟨some 15, _, _, _, _, _⟩) (v := (.pointer (some ⟨B, 2, none⟩))) rfl (by kernel_rfl) (by kernel_rfl) (by kernel_rfl) (fun _ _ _ h => h) (Or.inl ⟨by kernel_rfl, fun w' hSw => ?_⟩) hS ?_
  · go_simp
    all_goals first | rfl | (simp [*]; done)
  simp only [Act.put, List.setIfInBounds_toArray, List.set_cons_zero, List.set_cons_succ]
  refine wpAnyH_take (i := 5) (oi := ⟨some 16, _, _, _, _, _⟩) (v := (.string us)) rfl (by kernel_rfl) (by kernel_rfl) (by kernel_rfl) (fun _ _ _ h => h) (Or.inl ⟨by kernel_rfl, fun w' hSw => ?_⟩) hS ?_
  · obtain ⟨s1, s2, s3, s4, s5, s6, s7, s8⟩ := hSw
    go_simp
    all_goals first | rfl | (simp [*]; done)
  simp only [Act.put, List.setIfInBounds_toArray, List.set_cons_zero, List.set_cons_succ]
  refine wpAnyH_take (i := 7) (oi := ⟨some 18, _, _, _, _, _⟩) (v := (.pointer (some ⟨B, 3, none⟩))) rfl (by kernel_rfl) (by kernel_rfl) (by kernel_rfl) (fun _ _ _ h => h) (Or.inl ⟨by kernel_rfl, fun w' hSw => ?_⟩) hS ?_
  · go_simp
    all_goals first | rfl | (simp [*]; done)
  simp only [Act.put, List.setIfInBounds_toArray, List.set_cons_zero, List.set_cons_succ]
  refine wpAnyH_take (i := 8) (oi := ⟨some 19, _, _, _, _, _⟩) (v := (.string sp)) rfl (by kernel_rfl) (by kernel_rfl) (by kernel_rfl) (fun _ _ _ h => h) (Or.inl ⟨by kernel_rfl, fun w' hSw => ?_⟩) hS ?_
  · obtain ⟨s1, s2, s3, s4, s5, s6, s7, s8⟩ := hSw
    go_simp
    all_goals first | rfl | (simp [*]; done)
  simp only [Act.put, List.setIfInBounds_toArray, List.set_cons_zero, List.set_cons_succ]
  refine wpAnyH_take (i := 10) (oi := ⟨some 21, _, _, _, _, _⟩) (v := (.pointer (some ⟨B, 4, none⟩))) rfl (by kernel_rfl) (by kernel_rfl) (by kernel_rfl) (fun _ _ _ h => h) (Or.inl ⟨by kernel_rfl, fun w' hSw => ?_⟩) hS ?_
  · go_simp
    all_goals first | rfl | (simp [*]; done)
  simp only [Act.put, List.setIfInBounds_toArray, List.set_cons_zero, List.set_cons_succ]
  refine wpAnyH_take (i := 11) (oi := ⟨some 22, _, _, _, _, _⟩) (v := (.int .i64 (run : Int))) rfl (by kernel_rfl) (by kernel_rfl) (by kernel_rfl) (fun _ _ _ h => h) (Or.inl ⟨by kernel_rfl, fun w' hSw => ?_⟩) hS ?_
  · obtain ⟨s1, s2, s3, s4, s5, s6, s7, s8⟩ := hSw
    go_simp
    all_goals first | rfl | (simp [*]; done)
  simp only [Act.put, List.setIfInBounds_toArray, List.set_cons_zero, List.set_cons_succ]
  refine wpAnyH_take (i := 13) (oi := ⟨some 24, _, _, _, _, _⟩) (v := (.pointer (some ⟨B, 5, none⟩))) rfl (by kernel_rfl) (by kernel_rfl) (by kernel_rfl) (fun _ _ _ h => h) (Or.inl ⟨by kernel_rfl, fun w' hSw => ?_⟩) hS ?_
  · go_simp
    all_goals first | rfl | (simp [*]; done)
  simp only [Act.put, List.setIfInBounds_toArray, List.set_cons_zero, List.set_cons_succ]
  refine wpAnyH_take (i := 14) (oi := ⟨some 25, _, _, _, _, _⟩) (v := (.int .i64 (num : Int))) rfl (by kernel_rfl) (by kernel_rfl) (by kernel_rfl) (fun _ _ _ h => h) (Or.inl ⟨by kernel_rfl, fun w' hSw => ?_⟩) hS ?_
  · obtain ⟨s1, s2, s3, s4, s5, s6, s7, s8⟩ := hSw
    go_simp
    all_goals first | rfl | (simp [*]; done)
  simp only [Act.put, List.setIfInBounds_toArray, List.set_cons_zero, List.set_cons_succ]
  refine wpAnyH_take (i := 16) (oi := ⟨some 27, _, _, _, _, _⟩) (v := (.pointer (some ⟨B, 6, none⟩))) rfl (by kernel_rfl) (by kernel_rfl) (by kernel_rfl) (fun _ _ _ h => h) (Or.inl ⟨by kernel_rfl, fun w' hSw => ?_⟩) hS ?_
  · go_simp
    all_goals first | rfl | (simp [*]; done)
  simp only [Act.put, List.setIfInBounds_toArray, List.set_cons_zero, List.set_cons_succ]
  refine wpAnyH_take (i := 17) (oi := ⟨some 28, _, _, _, _, _⟩) (v := (.string tx)) rfl (by kernel_rfl) (by kernel_rfl) (by kernel_rfl) (fun _ _ _ h => h) (Or.inl ⟨by kernel_rfl, fun w' hSw => ?_⟩) hS ?_
  · obtain ⟨s1, s2, s3, s4, s5, s6, s7, s8⟩ := hSw
    go_simp
    all_goals first | rfl | (simp [*]; done)
  simp only [Act.put, List.setIfInBounds_toArray, List.set_cons_zero, List.set_cons_succ]
  refine wpAnyH_ready (rs := [3]) (by kernel_rfl) (by simp) ?_
  refine AllReadyH.cons (o := ⟨some 14, _, _, _, _, _⟩) rfl (fun K hK => ?_) AllReadyH.nil
  go_simp
  refine (HC1.out _).mono ?_
  rintro e wa ⟨rfl, hwa⟩
  have hwa := hwa.symm
  subst hwa
  go_simp
  refine hK.out _ _ hS (fun hS => ?_)
  clear hK
  refine wpAnyH_ready (rs := [6]) (by kernel_rfl) (by simp) ?_
  refine AllReadyH.cons (o := ⟨some 17, _, _, _, _, _⟩) rfl (fun K hK => ?_) AllReadyH.nil
  go_simp
  refine (HC2.out _).mono ?_
  rintro e wa ⟨rfl, hwa⟩
  have hwa := hwa.symm
  subst hwa
  go_simp
  refine hK.out _ _ hS (fun hS => ?_)
  clear hK
  refine wpAnyH_ready (rs := [9]) (by kernel_rfl) (by simp) ?_
  refine AllReadyH.cons (o := ⟨some 20, _, _, _, _, _⟩) rfl (fun K hK => ?_) AllReadyH.nil
  go_simp
  refine (HC3.out _).mono ?_
  rintro e wa ⟨rfl, hwa⟩
  have hwa := hwa.symm
  subst hwa
  go_simp
  refine hK.out _ _ hS (fun hS => ?_)
  clear hK
  refine wpAnyH_ready (rs := [12]) (by kernel_rfl) (by simp) ?_
  refine AllReadyH.cons (o := ⟨some 23, _, _, _, _, _⟩) rfl (fun K hK => ?_) AllReadyH.nil
  go_simp
  refine (HC4.out _ hS.1).mono ?_
  rintro e wa ⟨rfl, hga⟩
  go_simp
  refine hK.out _ _ ⟨grown_trans hS.1 hga, hga.cell hS.2.1 (by simp), hga.cell hS.2.2.1 (by simp), hga.cell hS.2.2.2.1 (by simp), hga.cell hS.2.2.2.2.1 (by simp), hga.cell hS.2.2.2.2.2.1 (by simp), hga.cell hS.2.2.2.2.2.2.1 (by simp), hga.cell hS.2.2.2.2.2.2.2 (by simp)⟩ (fun hS => ?_)
  clear hK
  refine wpAnyH_ready (rs := [15]) (by kernel_rfl) (by simp) ?_
  refine AllReadyH.cons (o := ⟨some 26, _, _, _, _, _⟩) rfl (fun K hK => ?_) AllReadyH.nil
  go_simp
  refine (HC5.out _ hS.1).mono ?_
  rintro e wa ⟨rfl, hga⟩
  go_simp
  refine hK.out _ _ ⟨grown_trans hS.1 hga, hga.cell hS.2.1 (by simp), hga.cell hS.2.2.1 (by simp), hga.cell hS.2.2.2.1 (by simp), hga.cell hS.2.2.2.2.1 (by simp), hga.cell hS.2.2.2.2.2.1 (by simp), hga.cell hS.2.2.2.2.2.2.1 (by simp), hga.cell hS.2.2.2.2.2.2.2 (by simp)⟩ (fun hS => ?_)
  clear hK
  have HS4 := Lib.hid hS
  refine wpAnyH_ready (rs := [18]) (by kernel_rfl) (by simp) ?_
  refine AllReadyH.cons (o := ⟨some 29, _, _, _, _, _⟩) rfl (fun K hK => ?_) AllReadyH.nil
  go_simp
  refine hK.out _ _ ⟨grown_alloc HS4.out.1 _, (World.grownBy_alloc _ _ none).cell HS4.out.2.1 (by simp), (World.grownBy_alloc _ _ none).cell HS4.out.2.2.1 (by simp), (World.grownBy_alloc _ _ none).cell HS4.out.2.2.2.1 (by simp), (World.grownBy_alloc _ _ none).cell HS4.out.2.2.2.2.1 (by simp), (World.grownBy_alloc _ _ none).cell HS4.out.2.2.2.2.2.1 (by simp), (World.grownBy_alloc _ _ none).cell HS4.out.2.2.2.2.2.2.1 (by simp), (World.grownBy_alloc _ _ none).cell HS4.out.2.2.2.2.2.2.2 (by simp)⟩ (fun hS => ?_)
  clear hK
  refine wpAnyH_ready (rs := [19]) (by kernel_rfl) (by simp) ?_
  refine AllReadyH.cons (o := ⟨some 30, _, _, _, _, _⟩) rfl (fun K hK => ?_) AllReadyH.nil
  go_simp
  refine (HLI.out _ _ (fun j u hu => by rw [Addr.add_mid, Nat.zero_add]; exact (Blk.new _ 9 (strs [T1, T2, T3, D1, D2, tx])).cell hu)).mono ?_
  rintro e wa ⟨rfl, hga⟩
  go_simp
  refine hK.out _ _ ⟨grown_trans hS.1 hga, hga.cell hS.2.1 (by simp), hga.cell hS.2.2.1 (by simp), hga.cell hS.2.2.2.1 (by simp), hga.cell hS.2.2.2.2.1 (by simp), hga.cell hS.2.2.2.2.2.1 (by simp), hga.cell hS.2.2.2.2.2.2.1 (by simp), hga.cell hS.2.2.2.2.2.2.2 (by simp)⟩ (fun hS => ?_)
  clear hK
  refine wpAnyH_take (i := 20) (oi := ⟨some 2, _, _, _, _, _⟩) (v := (.string (writeT 5 tn us sp run num tx))) rfl (by kernel_rfl) (by kernel_rfl) (by kernel_rfl) (fun _ _ _ h => h) (Or.inl ⟨by kernel_rfl, fun w' hSw => ?_⟩) hS ?_
  · go_simp
  simp only [Act.put, List.setIfInBounds_toArray, List.set_cons_zero, List.set_cons_succ]
  refine wpAnyH_done (by kernel_rfl) ?_ _
  go_wp2
  go_ret
  exact ⟨rfl, hS.1⟩

set_option maxRecDepth 100000 in
set_option maxHeartbeats 8000000 in
theorem iwrite_6 (w : World) (hP : Pow w) (tn us sp : ByteArray) (run num : Nat) (tx : ByteArray) (h1 : tn.size ≤ 1048576) (h2 : us.size ≤ 1048576) (h3 : sp.size ≤ 1048576) (h4 : tx.size ≤ 1048576) (hp : ReqP 6 tn us sp run num tx) :
    Calls Tryd.prog 31 #[.agg #[.int .i64 6, .string tn, .string us, .string sp, .int .i64 (run : Int), .int .i64 (num : Int), .string tx]] w fun e w' => e = .returned (.string (writeT 6 tn us sp run num tx)) ∧ w.grownBy w' none := by
  have hrun : run < 4611686018427387904 := by have := hp.2.2.2.2.1.2; omega
  have hnum : num < 4611686018427387904 := by have := hp.2.2.2.2.2.1.2; omega
  obtain ⟨W, hW⟩ : ∃ W, w.alloc (Obj.cells #[Value.int .i64 6, .string tn, .string us, .string sp, .int .i64 (run : Int), .int .i64 (num : Int), .string tx] 31) = W := ⟨_, rfl⟩
  obtain ⟨B, hB⟩ : ∃ B, B = w.heap.size := ⟨_, rfl⟩
  have HB := Lib.hid (show Blk W B 31 [.int .i64 6, .string tn, .string us, .string sp, .int .i64 (run : Int), .int .i64 (num : Int), .string tx] from by rw [← hW, hB]; exact Blk.new w 31 _)
  have HG := Lib.hid (show w.grownBy W none from by rw [← hW]; exact grown_alloc (grown_refl _ _) _)
  have HW := Lib.hid hW
  have HBE := Lib.hid hB
  have HRQ := Lib.hid ((ireq_any W 6 tn us sp run num tx h1 h2 h3 h4).mono (R' := fun e w' => e = .returned (.bool true) ∧ W.grownBy w' none) (fun e w' q => ⟨q.1.is_yes hp, q.2⟩))
  have z1 : (wordT tn).size ≤ 7 := wordT_size tn hp.1
  have z2 : (wordT us).size ≤ 7 := wordT_size us hp.2.1
  have z3 : (wordT sp).size ≤ 7 := wordT_size sp hp.2.2.1
  have z4 : (decS run).size ≤ 21 := decS_size run hrun
  have z5 : (decS num).size ≤ 21 := decS_size num hnum
  have HJW := Lib.hid (joinT_write 6 tn us sp run num tx)
  have HLN := Lib.hid (show (Lib.join ((kindW 6 :: [wordT tn, wordT us, wordT sp, decS run, decS num, tx]).map (·.data.toList)) [32]).length ≤ 140737488355328 from by
    have s7 : (kindW 6).size ≤ 7 := kindW_size 6 (by decide)
    simp [Lib.join]
    omega)
  obtain ⟨T1, hT1⟩ : ∃ K, wordT tn = K := ⟨_, rfl⟩
  obtain ⟨T2, hT2⟩ : ∃ K, wordT us = K := ⟨_, rfl⟩
  obtain ⟨T3, hT3⟩ : ∃ K, wordT sp = K := ⟨_, rfl⟩
  obtain ⟨D1, hD1⟩ : ∃ K, decS run = K := ⟨_, rfl⟩
  obtain ⟨D2, hD2⟩ : ∃ K, decS num = K := ⟨_, rfl⟩
  have HALL := Lib.hid (fun (V : World) (hV : w.grownBy V none ∧ W.grownBy V none) => show w.grownBy V none ∧ V.cell? ⟨B, 0, none⟩ = some (.int .i64 6) ∧ V.cell? ⟨B, 1, none⟩ = some (.string tn) ∧ V.cell? ⟨B, 2, none⟩ = some (.string us) ∧ V.cell? ⟨B, 3, none⟩ = some (.string sp) ∧ V.cell? ⟨B, 4, none⟩ = some (.int .i64 (run : Int)) ∧ V.cell? ⟨B, 5, none⟩ = some (.int .i64 (num : Int)) ∧ V.cell? ⟨B, 6, none⟩ = some (.string tx) from ⟨hV.1, hV.2.cell (HB.out.cell rfl) (by simp), hV.2.cell (HB.out.cell rfl) (by simp), hV.2.cell (HB.out.cell rfl) (by simp), hV.2.cell (HB.out.cell rfl) (by simp), hV.2.cell (HB.out.cell rfl) (by simp), hV.2.cell (HB.out.cell rfl) (by simp), hV.2.cell (HB.out.cell rfl) (by simp)⟩)
  have HPW := Lib.hid (fun (V : World) (hV : w.grownBy V none) => hP.grown hV)
  have HC1 := Lib.hid (fun (V : World) => (iword_any V tn).mono (R' := fun e w' => e = .returned (.string T1) ∧ w' = V) (fun e w' q => ⟨by rw [q.1, hT1], q.2⟩))
  have HC2 := Lib.hid (fun (V : World) => (iword_any V us).mono (R' := fun e w' => e = .returned (.string T2) ∧ w' = V) (fun e w' q => ⟨by rw [q.1, hT2], q.2⟩))
  have HC3 := Lib.hid (fun (V : World) => (iword_any V sp).mono (R' := fun e w' => e = .returned (.string T3) ∧ w' = V) (fun e w' q => ⟨by rw [q.1, hT3], q.2⟩))
  have HC4 := Lib.hid (fun (V : World) (hV : w.grownBy V none) => (itoa_nat run (by omega) V (HPW.out V hV)).mono (R' := fun e w' => e = .returned (.string D1) ∧ V.grownBy w' none) (fun e w' q => ⟨by rw [q.1, hD1], q.2⟩))
  have HC5 := Lib.hid (fun (V : World) (hV : w.grownBy V none) => (itoa_nat num (by omega) V (HPW.out V hV)).mono (R' := fun e w' => e = .returned (.string D2) ∧ V.grownBy w' none) (fun e w' q => ⟨by rw [q.1, hD2], q.2⟩))
  have HKL := Lib.hid (fun (V : World) => ikinds_any V)
  rw [hT1, hT2, hT3, hD1, hD2] at HJW HLN
  have HLI := Lib.hid (fun (V : World) (g : Nat) (hg : At V ⟨g, 0, none⟩ [T1, T2, T3, D1, D2, tx]) => (line_any V (kindW 6) g 0 6 [T1, T2, T3, D1, D2, tx] hg (by simp) HLN.out).mono (R' := fun e w' => e = .returned (.string (writeT 6 tn us sp run num tx)) ∧ V.grownBy w' none) (fun e w' q => ⟨by rw [q.1, HJW.out], q.2⟩))
  clear hp hP hW hB h1 h2 h3 h4 hT1 hT2 hT3 hD1 hD2 z1 z2 z3 z4 z5 hrun hnum HJW HLN
  go_enter Tryd.func31, Tryd.ntmps31
  go_wp2_with fail
  rw [HW.out]
  refine HRQ.out.mono ?_
  rintro e w1 ⟨rfl, hg1⟩
  have HG1 := Lib.hid (grown_trans HG.out hg1)
  have HX1 := Lib.hid hg1
  clear hg1 HRQ
  go_wp2
  rw [← HBE.out]
  refine wp_region_held_drew (S := fun w' => w.grownBy w' none ∧ w'.cell? ⟨B, 0, none⟩ = some (.int .i64 6) ∧ w'.cell? ⟨B, 1, none⟩ = some (.string tn) ∧ w'.cell? ⟨B, 2, none⟩ = some (.string us) ∧ w'.cell? ⟨B, 3, none⟩ = some (.string sp) ∧ w'.cell? ⟨B, 4, none⟩ = some (.int .i64 (run : Int)) ∧ w'.cell? ⟨B, 5, none⟩ = some (.int .i64 (num : Int)) ∧ w'.cell? ⟨B, 6, none⟩ = some (.string tx)) (by kernel_rfl) (HALL.out _ ⟨grown_drew HG1.out, grown_drew HX1.out⟩) (fun hS => ?_)
  refine wpAnyH_take (i := 1) (oi := ⟨some 8, _, _, _, _, _⟩) (v := (.pointer (some ⟨B, 0, none⟩))) rfl (by kernel_rfl) (by kernel_rfl) (by kernel_rfl) (fun _ _ _ h => h) (Or.inl ⟨by kernel_rfl, fun w' hSw => ?_⟩) hS ?_
  · go_simp
    all_goals first | rfl | (simp [*]; done) | (simp [kindsC]; done) | kernel_rfl
  simp only [Act.put, List.setIfInBounds_toArray, List.set_cons_zero, List.set_cons_succ]
  refine wpAnyH_take (i := 2) (oi := ⟨some 9, _, _, _, _, _⟩) (v := (.int .i64 6)) rfl (by kernel_rfl) (by kernel_rfl) (by kernel_rfl) (fun _ _ _ h => h) (Or.inl ⟨by kernel_rfl, fun w' hSw => ?_⟩) hS ?_
  · obtain ⟨s1, s2, s3, s4, s5, s6, s7, s8⟩ := hSw
    go_simp
    all_goals first | rfl | (simp [*]; done) | (simp [kindsC]; done) | kernel_rfl
  simp only [Act.put, List.setIfInBounds_toArray, List.set_cons_zero, List.set_cons_succ]
  refine wpAnyH_ready (rs := [0]) (by kernel_rfl) (by simp) ?_
  refine AllReadyH.cons (o := ⟨some 7, _, _, _, _, _⟩) rfl (fun K hK => ?_) AllReadyH.nil
  go_simp
  refine (HKL.out _).mono ?_
  rintro e wa ⟨rfl, hga⟩
  go_simp
  refine hK.out _ _ ⟨grown_trans hS.1 hga, hga.cell hS.2.1 (by simp), hga.cell hS.2.2.1 (by simp), hga.cell hS.2.2.2.1 (by simp), hga.cell hS.2.2.2.2.1 (by simp), hga.cell hS.2.2.2.2.2.1 (by simp), hga.cell hS.2.2.2.2.2.2.1 (by simp), hga.cell hS.2.2.2.2.2.2.2 (by simp)⟩ (fun hS => ?_)
  clear hK
  refine wpAnyH_take (i := 3) (oi := ⟨some 10, _, _, _, _, _⟩) (v := (.func (.func 60) #[.string ⟨#[112, 111, 108, 105, 99, 121]⟩] #[])) rfl (by kernel_rfl) (by kernel_rfl) (by kernel_rfl) (fun _ _ _ h => h) (Or.inl ⟨by kernel_rfl, fun w' hSw => ?_⟩) hS ?_
  · go_simp
    all_goals first | rfl | (simp [*]; done) | (simp [kindsC]; done) | kernel_rfl
  simp only [Act.put, List.setIfInBounds_toArray, List.set_cons_zero, List.set_cons_succ]
  refine wpAnyH_take (i := 4) (oi := ⟨some 3, _, _, _, _, _⟩) (v := (.func (.func 60) #[.string ⟨#[112, 111, 108, 105, 99, 121]⟩] #[])) rfl (by kernel_rfl) (by kernel_rfl) (by kernel_rfl) (fun _ _ _ h => h) (Or.inl ⟨by kernel_rfl, fun w' hSw => ?_⟩) hS ?_
  · go_simp
    all_goals first | rfl | (simp [*]; done) | (simp [kindsC]; done) | kernel_rfl
  simp only [Act.put, List.setIfInBounds_toArray, List.set_cons_zero, List.set_cons_succ]
  refine wpAnyH_done (by kernel_rfl) ?_ _
  have HS3 := Lib.hid hS
  go_wp2
  refine wp_region_held_drew (S := fun w' => w.grownBy w' none ∧ w'.cell? ⟨B, 0, none⟩ = some (.int .i64 6) ∧ w'.cell? ⟨B, 1, none⟩ = some (.string tn) ∧ w'.cell? ⟨B, 2, none⟩ = some (.string us) ∧ w'.cell? ⟨B, 3, none⟩ = some (.string sp) ∧ w'.cell? ⟨B, 4, none⟩ = some (.int .i64 (run : Int)) ∧ w'.cell? ⟨B, 5, none⟩ = some (.int .i64 (num : Int)) ∧ w'.cell? ⟨B, 6, none⟩ = some (.string tx)) (by kernel_rfl) (⟨grown_drew HS3.out.1, HS3.out.2⟩) (fun hS => ?_)
  refine wpAnyH_take (i := 0) (oi := ⟨some 11, _, _, _, _, _⟩) (v := (.func (.func 60) #[.string ⟨#[112, 111, 108, 105, 99, 121]⟩] #[])) rfl (by kernel_rfl) (by kernel_rfl) (by kernel_rfl) (fun _ _ _ h => h) (Or.inl ⟨by kernel_rfl, fun w' hSw => ?_⟩) hS ?_
  · go_simp
    all_goals first | rfl | (simp [*]; done)
  simp only [Act.put, List.setIfInBounds_toArray, List.set_cons_zero, List.set_cons_succ]
  refine wpAnyH_take (i := 1) (oi := ⟨some 12, _, _, _, _, _⟩) (v := (.pointer (some ⟨B, 1, none⟩))) rfl (by kernel_rfl) (by kernel_rfl) (by kernel_rfl) (fun _ _ _ h => h) (Or.inl ⟨by kernel_rfl, fun w' hSw => ?_⟩) hS ?_
  · go_simp
    all_goals first | rfl | (simp [*]; done)
  simp only [Act.put, List.setIfInBounds_toArray, List.set_cons_zero, List.set_cons_succ]
  refine wpAnyH_take (i := 2) (oi := ⟨some 13, _, _, _, _, _⟩) (v := (.string tn)) rfl (by kernel_rfl) (by kernel_rfl) (by kernel_rfl) (fun _ _ _ h => h) (Or.inl ⟨by kernel_rfl, fun w' hSw => ?_⟩) hS ?_
  · obtain ⟨s1, s2, s3, s4, s5, s6, s7, s8⟩ := hSw
    go_simp
    all_goals first | rfl | (simp [*]; done)
  simp only [Act.put, List.setIfInBounds_toArray, List.set_cons_zero, List.set_cons_succ]
  refine wpAnyH_take (i := 4) (oi := ⟨some 15, _, _, _, _, _⟩) (v := (.pointer (some ⟨B, 2, none⟩))) rfl (by kernel_rfl) (by kernel_rfl) (by kernel_rfl) (fun _ _ _ h => h) (Or.inl ⟨by kernel_rfl, fun w' hSw => ?_⟩) hS ?_
  · go_simp
    all_goals first | rfl | (simp [*]; done)
  simp only [Act.put, List.setIfInBounds_toArray, List.set_cons_zero, List.set_cons_succ]
  refine wpAnyH_take (i := 5) (oi := ⟨some 16, _, _, _, _, _⟩) (v := (.string us)) rfl (by kernel_rfl) (by kernel_rfl) (by kernel_rfl) (fun _ _ _ h => h) (Or.inl ⟨by kernel_rfl, fun w' hSw => ?_⟩) hS ?_
  · obtain ⟨s1, s2, s3, s4, s5, s6, s7, s8⟩ := hSw
    go_simp
    all_goals first | rfl | (simp [*]; done)
  simp only [Act.put, List.setIfInBounds_toArray, List.set_cons_zero, List.set_cons_succ]
  refine wpAnyH_take (i := 7) (oi := ⟨some 18, _, _, _, _, _⟩) (v := (.pointer (some ⟨B, 3, none⟩))) rfl (by kernel_rfl) (by kernel_rfl) (by kernel_rfl) (fun _ _ _ h => h) (Or.inl ⟨by kernel_rfl, fun w' hSw => ?_⟩) hS ?_
  · go_simp
    all_goals first | rfl | (simp [*]; done)
  simp only [Act.put, List.setIfInBounds_toArray, List.set_cons_zero, List.set_cons_succ]
  refine wpAnyH_take (i := 8) (oi := ⟨some 19, _, _, _, _, _⟩) (v := (.string sp)) rfl (by kernel_rfl) (by kernel_rfl) (by kernel_rfl) (fun _ _ _ h => h) (Or.inl ⟨by kernel_rfl, fun w' hSw => ?_⟩) hS ?_
  · obtain ⟨s1, s2, s3, s4, s5, s6, s7, s8⟩ := hSw
    go_simp
    all_goals first | rfl | (simp [*]; done)
  simp only [Act.put, List.setIfInBounds_toArray, List.set_cons_zero, List.set_cons_succ]
  refine wpAnyH_take (i := 10) (oi := ⟨some 21, _, _, _, _, _⟩) (v := (.pointer (some ⟨B, 4, none⟩))) rfl (by kernel_rfl) (by kernel_rfl) (by kernel_rfl) (fun _ _ _ h => h) (Or.inl ⟨by kernel_rfl, fun w' hSw => ?_⟩) hS ?_
  · go_simp
    all_goals first | rfl | (simp [*]; done)
  simp only [Act.put, List.setIfInBounds_toArray, List.set_cons_zero, List.set_cons_succ]
  refine wpAnyH_take (i := 11) (oi := ⟨some 22, _, _, _, _, _⟩) (v := (.int .i64 (run : Int))) rfl (by kernel_rfl) (by kernel_rfl) (by kernel_rfl) (fun _ _ _ h => h) (Or.inl ⟨by kernel_rfl, fun w' hSw => ?_⟩) hS ?_
  · obtain ⟨s1, s2, s3, s4, s5, s6, s7, s8⟩ := hSw
    go_simp
    all_goals first | rfl | (simp [*]; done)
  simp only [Act.put, List.setIfInBounds_toArray, List.set_cons_zero, List.set_cons_succ]
  refine wpAnyH_take (i := 13) (oi := ⟨some 24, _, _, _, _, _⟩) (v := (.pointer (some ⟨B, 5, none⟩))) rfl (by kernel_rfl) (by kernel_rfl) (by kernel_rfl) (fun _ _ _ h => h) (Or.inl ⟨by kernel_rfl, fun w' hSw => ?_⟩) hS ?_
  · go_simp
    all_goals first | rfl | (simp [*]; done)
  simp only [Act.put, List.setIfInBounds_toArray, List.set_cons_zero, List.set_cons_succ]
  refine wpAnyH_take (i := 14) (oi := ⟨some 25, _, _, _, _, _⟩) (v := (.int .i64 (num : Int))) rfl (by kernel_rfl) (by kernel_rfl) (by kernel_rfl) (fun _ _ _ h => h) (Or.inl ⟨by kernel_rfl, fun w' hSw => ?_⟩) hS ?_
  · obtain ⟨s1, s2, s3, s4, s5, s6, s7, s8⟩ := hSw
    go_simp
    all_goals first | rfl | (simp [*]; done)
  simp only [Act.put, List.setIfInBounds_toArray, List.set_cons_zero, List.set_cons_succ]
  refine wpAnyH_take (i := 16) (oi := ⟨some 27, _, _, _, _, _⟩) (v := (.pointer (some ⟨B, 6, none⟩))) rfl (by kernel_rfl) (by kernel_rfl) (by kernel_rfl) (fun _ _ _ h => h) (Or.inl ⟨by kernel_rfl, fun w' hSw => ?_⟩) hS ?_
  · go_simp
    all_goals first | rfl | (simp [*]; done)
  simp only [Act.put, List.setIfInBounds_toArray, List.set_cons_zero, List.set_cons_succ]
  refine wpAnyH_take (i := 17) (oi := ⟨some 28, _, _, _, _, _⟩) (v := (.string tx)) rfl (by kernel_rfl) (by kernel_rfl) (by kernel_rfl) (fun _ _ _ h => h) (Or.inl ⟨by kernel_rfl, fun w' hSw => ?_⟩) hS ?_
  · obtain ⟨s1, s2, s3, s4, s5, s6, s7, s8⟩ := hSw
    go_simp
    all_goals first | rfl | (simp [*]; done)
  simp only [Act.put, List.setIfInBounds_toArray, List.set_cons_zero, List.set_cons_succ]
  refine wpAnyH_ready (rs := [3]) (by kernel_rfl) (by simp) ?_
  refine AllReadyH.cons (o := ⟨some 14, _, _, _, _, _⟩) rfl (fun K hK => ?_) AllReadyH.nil
  go_simp
  refine (HC1.out _).mono ?_
  rintro e wa ⟨rfl, hwa⟩
  have hwa := hwa.symm
  subst hwa
  go_simp
  refine hK.out _ _ hS (fun hS => ?_)
  clear hK
  refine wpAnyH_ready (rs := [6]) (by kernel_rfl) (by simp) ?_
  refine AllReadyH.cons (o := ⟨some 17, _, _, _, _, _⟩) rfl (fun K hK => ?_) AllReadyH.nil
  go_simp
  refine (HC2.out _).mono ?_
  rintro e wa ⟨rfl, hwa⟩
  have hwa := hwa.symm
  subst hwa
  go_simp
  refine hK.out _ _ hS (fun hS => ?_)
  clear hK
  refine wpAnyH_ready (rs := [9]) (by kernel_rfl) (by simp) ?_
  refine AllReadyH.cons (o := ⟨some 20, _, _, _, _, _⟩) rfl (fun K hK => ?_) AllReadyH.nil
  go_simp
  refine (HC3.out _).mono ?_
  rintro e wa ⟨rfl, hwa⟩
  have hwa := hwa.symm
  subst hwa
  go_simp
  refine hK.out _ _ hS (fun hS => ?_)
  clear hK
  refine wpAnyH_ready (rs := [12]) (by kernel_rfl) (by simp) ?_
  refine AllReadyH.cons (o := ⟨some 23, _, _, _, _, _⟩) rfl (fun K hK => ?_) AllReadyH.nil
  go_simp
  refine (HC4.out _ hS.1).mono ?_
  rintro e wa ⟨rfl, hga⟩
  go_simp
  refine hK.out _ _ ⟨grown_trans hS.1 hga, hga.cell hS.2.1 (by simp), hga.cell hS.2.2.1 (by simp), hga.cell hS.2.2.2.1 (by simp), hga.cell hS.2.2.2.2.1 (by simp), hga.cell hS.2.2.2.2.2.1 (by simp), hga.cell hS.2.2.2.2.2.2.1 (by simp), hga.cell hS.2.2.2.2.2.2.2 (by simp)⟩ (fun hS => ?_)
  clear hK
  refine wpAnyH_ready (rs := [15]) (by kernel_rfl) (by simp) ?_
  refine AllReadyH.cons (o := ⟨some 26, _, _, _, _, _⟩) rfl (fun K hK => ?_) AllReadyH.nil
  go_simp
  refine (HC5.out _ hS.1).mono ?_
  rintro e wa ⟨rfl, hga⟩
  go_simp
  refine hK.out _ _ ⟨grown_trans hS.1 hga, hga.cell hS.2.1 (by simp), hga.cell hS.2.2.1 (by simp), hga.cell hS.2.2.2.1 (by simp), hga.cell hS.2.2.2.2.1 (by simp), hga.cell hS.2.2.2.2.2.1 (by simp), hga.cell hS.2.2.2.2.2.2.1 (by simp), hga.cell hS.2.2.2.2.2.2.2 (by simp)⟩ (fun hS => ?_)
  clear hK
  have HS4 := Lib.hid hS
  refine wpAnyH_ready (rs := [18]) (by kernel_rfl) (by simp) ?_
  refine AllReadyH.cons (o := ⟨some 29, _, _, _, _, _⟩) rfl (fun K hK => ?_) AllReadyH.nil
  go_simp
  refine hK.out _ _ ⟨grown_alloc HS4.out.1 _, (World.grownBy_alloc _ _ none).cell HS4.out.2.1 (by simp), (World.grownBy_alloc _ _ none).cell HS4.out.2.2.1 (by simp), (World.grownBy_alloc _ _ none).cell HS4.out.2.2.2.1 (by simp), (World.grownBy_alloc _ _ none).cell HS4.out.2.2.2.2.1 (by simp), (World.grownBy_alloc _ _ none).cell HS4.out.2.2.2.2.2.1 (by simp), (World.grownBy_alloc _ _ none).cell HS4.out.2.2.2.2.2.2.1 (by simp), (World.grownBy_alloc _ _ none).cell HS4.out.2.2.2.2.2.2.2 (by simp)⟩ (fun hS => ?_)
  clear hK
  refine wpAnyH_ready (rs := [19]) (by kernel_rfl) (by simp) ?_
  refine AllReadyH.cons (o := ⟨some 30, _, _, _, _, _⟩) rfl (fun K hK => ?_) AllReadyH.nil
  go_simp
  refine (HLI.out _ _ (fun j u hu => by rw [Addr.add_mid, Nat.zero_add]; exact (Blk.new _ 9 (strs [T1, T2, T3, D1, D2, tx])).cell hu)).mono ?_
  rintro e wa ⟨rfl, hga⟩
  go_simp
  refine hK.out _ _ ⟨grown_trans hS.1 hga, hga.cell hS.2.1 (by simp), hga.cell hS.2.2.1 (by simp), hga.cell hS.2.2.2.1 (by simp), hga.cell hS.2.2.2.2.1 (by simp), hga.cell hS.2.2.2.2.2.1 (by simp), hga.cell hS.2.2.2.2.2.2.1 (by simp), hga.cell hS.2.2.2.2.2.2.2 (by simp)⟩ (fun hS => ?_)
  clear hK
  refine wpAnyH_take (i := 20) (oi := ⟨some 2, _, _, _, _, _⟩) (v := (.string (writeT 6 tn us sp run num tx))) rfl (by kernel_rfl) (by kernel_rfl) (by kernel_rfl) (fun _ _ _ h => h) (Or.inl ⟨by kernel_rfl, fun w' hSw => ?_⟩) hS ?_
  · go_simp
  simp only [Act.put, List.setIfInBounds_toArray, List.set_cons_zero, List.set_cons_succ]
  refine wpAnyH_done (by kernel_rfl) ?_ _
  go_wp2
  go_ret
  exact ⟨rfl, hS.1⟩

set_option maxRecDepth 100000 in
set_option maxHeartbeats 8000000 in
theorem iwrite_7 (w : World) (hP : Pow w) (tn us sp : ByteArray) (run num : Nat) (tx : ByteArray) (h1 : tn.size ≤ 1048576) (h2 : us.size ≤ 1048576) (h3 : sp.size ≤ 1048576) (h4 : tx.size ≤ 1048576) (hp : ReqP 7 tn us sp run num tx) :
    Calls Tryd.prog 31 #[.agg #[.int .i64 7, .string tn, .string us, .string sp, .int .i64 (run : Int), .int .i64 (num : Int), .string tx]] w fun e w' => e = .returned (.string (writeT 7 tn us sp run num tx)) ∧ w.grownBy w' none := by
  have hrun : run < 4611686018427387904 := by have := hp.2.2.2.2.1.2; omega
  have hnum : num < 4611686018427387904 := by have := hp.2.2.2.2.2.1.2; omega
  obtain ⟨W, hW⟩ : ∃ W, w.alloc (Obj.cells #[Value.int .i64 7, .string tn, .string us, .string sp, .int .i64 (run : Int), .int .i64 (num : Int), .string tx] 31) = W := ⟨_, rfl⟩
  obtain ⟨B, hB⟩ : ∃ B, B = w.heap.size := ⟨_, rfl⟩
  have HB := Lib.hid (show Blk W B 31 [.int .i64 7, .string tn, .string us, .string sp, .int .i64 (run : Int), .int .i64 (num : Int), .string tx] from by rw [← hW, hB]; exact Blk.new w 31 _)
  have HG := Lib.hid (show w.grownBy W none from by rw [← hW]; exact grown_alloc (grown_refl _ _) _)
  have HW := Lib.hid hW
  have HBE := Lib.hid hB
  have HRQ := Lib.hid ((ireq_any W 7 tn us sp run num tx h1 h2 h3 h4).mono (R' := fun e w' => e = .returned (.bool true) ∧ W.grownBy w' none) (fun e w' q => ⟨q.1.is_yes hp, q.2⟩))
  have z1 : (wordT tn).size ≤ 7 := wordT_size tn hp.1
  have z2 : (wordT us).size ≤ 7 := wordT_size us hp.2.1
  have z3 : (wordT sp).size ≤ 7 := wordT_size sp hp.2.2.1
  have z4 : (decS run).size ≤ 21 := decS_size run hrun
  have z5 : (decS num).size ≤ 21 := decS_size num hnum
  have HJW := Lib.hid (joinT_write 7 tn us sp run num tx)
  have HLN := Lib.hid (show (Lib.join ((kindW 7 :: [wordT tn, wordT us, wordT sp, decS run, decS num, tx]).map (·.data.toList)) [32]).length ≤ 140737488355328 from by
    have s7 : (kindW 7).size ≤ 7 := kindW_size 7 (by decide)
    simp [Lib.join]
    omega)
  obtain ⟨T1, hT1⟩ : ∃ K, wordT tn = K := ⟨_, rfl⟩
  obtain ⟨T2, hT2⟩ : ∃ K, wordT us = K := ⟨_, rfl⟩
  obtain ⟨T3, hT3⟩ : ∃ K, wordT sp = K := ⟨_, rfl⟩
  obtain ⟨D1, hD1⟩ : ∃ K, decS run = K := ⟨_, rfl⟩
  obtain ⟨D2, hD2⟩ : ∃ K, decS num = K := ⟨_, rfl⟩
  have HALL := Lib.hid (fun (V : World) (hV : w.grownBy V none ∧ W.grownBy V none) => show w.grownBy V none ∧ V.cell? ⟨B, 0, none⟩ = some (.int .i64 7) ∧ V.cell? ⟨B, 1, none⟩ = some (.string tn) ∧ V.cell? ⟨B, 2, none⟩ = some (.string us) ∧ V.cell? ⟨B, 3, none⟩ = some (.string sp) ∧ V.cell? ⟨B, 4, none⟩ = some (.int .i64 (run : Int)) ∧ V.cell? ⟨B, 5, none⟩ = some (.int .i64 (num : Int)) ∧ V.cell? ⟨B, 6, none⟩ = some (.string tx) from ⟨hV.1, hV.2.cell (HB.out.cell rfl) (by simp), hV.2.cell (HB.out.cell rfl) (by simp), hV.2.cell (HB.out.cell rfl) (by simp), hV.2.cell (HB.out.cell rfl) (by simp), hV.2.cell (HB.out.cell rfl) (by simp), hV.2.cell (HB.out.cell rfl) (by simp), hV.2.cell (HB.out.cell rfl) (by simp)⟩)
  have HPW := Lib.hid (fun (V : World) (hV : w.grownBy V none) => hP.grown hV)
  have HC1 := Lib.hid (fun (V : World) => (iword_any V tn).mono (R' := fun e w' => e = .returned (.string T1) ∧ w' = V) (fun e w' q => ⟨by rw [q.1, hT1], q.2⟩))
  have HC2 := Lib.hid (fun (V : World) => (iword_any V us).mono (R' := fun e w' => e = .returned (.string T2) ∧ w' = V) (fun e w' q => ⟨by rw [q.1, hT2], q.2⟩))
  have HC3 := Lib.hid (fun (V : World) => (iword_any V sp).mono (R' := fun e w' => e = .returned (.string T3) ∧ w' = V) (fun e w' q => ⟨by rw [q.1, hT3], q.2⟩))
  have HC4 := Lib.hid (fun (V : World) (hV : w.grownBy V none) => (itoa_nat run (by omega) V (HPW.out V hV)).mono (R' := fun e w' => e = .returned (.string D1) ∧ V.grownBy w' none) (fun e w' q => ⟨by rw [q.1, hD1], q.2⟩))
  have HC5 := Lib.hid (fun (V : World) (hV : w.grownBy V none) => (itoa_nat num (by omega) V (HPW.out V hV)).mono (R' := fun e w' => e = .returned (.string D2) ∧ V.grownBy w' none) (fun e w' q => ⟨by rw [q.1, hD2], q.2⟩))
  have HKL := Lib.hid (fun (V : World) => ikinds_any V)
  rw [hT1, hT2, hT3, hD1, hD2] at HJW HLN
  have HLI := Lib.hid (fun (V : World) (g : Nat) (hg : At V ⟨g, 0, none⟩ [T1, T2, T3, D1, D2, tx]) => (line_any V (kindW 7) g 0 6 [T1, T2, T3, D1, D2, tx] hg (by simp) HLN.out).mono (R' := fun e w' => e = .returned (.string (writeT 7 tn us sp run num tx)) ∧ V.grownBy w' none) (fun e w' q => ⟨by rw [q.1, HJW.out], q.2⟩))
  clear hp hP hW hB h1 h2 h3 h4 hT1 hT2 hT3 hD1 hD2 z1 z2 z3 z4 z5 hrun hnum HJW HLN
  go_enter Tryd.func31, Tryd.ntmps31
  go_wp2_with fail
  rw [HW.out]
  refine HRQ.out.mono ?_
  rintro e w1 ⟨rfl, hg1⟩
  have HG1 := Lib.hid (grown_trans HG.out hg1)
  have HX1 := Lib.hid hg1
  clear hg1 HRQ
  go_wp2
  rw [← HBE.out]
  refine wp_region_held_drew (S := fun w' => w.grownBy w' none ∧ w'.cell? ⟨B, 0, none⟩ = some (.int .i64 7) ∧ w'.cell? ⟨B, 1, none⟩ = some (.string tn) ∧ w'.cell? ⟨B, 2, none⟩ = some (.string us) ∧ w'.cell? ⟨B, 3, none⟩ = some (.string sp) ∧ w'.cell? ⟨B, 4, none⟩ = some (.int .i64 (run : Int)) ∧ w'.cell? ⟨B, 5, none⟩ = some (.int .i64 (num : Int)) ∧ w'.cell? ⟨B, 6, none⟩ = some (.string tx)) (by kernel_rfl) (HALL.out _ ⟨grown_drew HG1.out, grown_drew HX1.out⟩) (fun hS => ?_)
  refine wpAnyH_take (i := 1) (oi := ⟨some 8, _, _, _, _, _⟩) (v := (.pointer (some ⟨B, 0, none⟩))) rfl (by kernel_rfl) (by kernel_rfl) (by kernel_rfl) (fun _ _ _ h => h) (Or.inl ⟨by kernel_rfl, fun w' hSw => ?_⟩) hS ?_
  · go_simp
    all_goals first | rfl | (simp [*]; done) | (simp [kindsC]; done) | kernel_rfl
  simp only [Act.put, List.setIfInBounds_toArray, List.set_cons_zero, List.set_cons_succ]
  refine wpAnyH_take (i := 2) (oi := ⟨some 9, _, _, _, _, _⟩) (v := (.int .i64 7)) rfl (by kernel_rfl) (by kernel_rfl) (by kernel_rfl) (fun _ _ _ h => h) (Or.inl ⟨by kernel_rfl, fun w' hSw => ?_⟩) hS ?_
  · obtain ⟨s1, s2, s3, s4, s5, s6, s7, s8⟩ := hSw
    go_simp
    all_goals first | rfl | (simp [*]; done) | (simp [kindsC]; done) | kernel_rfl
  simp only [Act.put, List.setIfInBounds_toArray, List.set_cons_zero, List.set_cons_succ]
  refine wpAnyH_ready (rs := [0]) (by kernel_rfl) (by simp) ?_
  refine AllReadyH.cons (o := ⟨some 7, _, _, _, _, _⟩) rfl (fun K hK => ?_) AllReadyH.nil
  go_simp
  refine (HKL.out _).mono ?_
  rintro e wa ⟨rfl, hga⟩
  go_simp
  refine hK.out _ _ ⟨grown_trans hS.1 hga, hga.cell hS.2.1 (by simp), hga.cell hS.2.2.1 (by simp), hga.cell hS.2.2.2.1 (by simp), hga.cell hS.2.2.2.2.1 (by simp), hga.cell hS.2.2.2.2.2.1 (by simp), hga.cell hS.2.2.2.2.2.2.1 (by simp), hga.cell hS.2.2.2.2.2.2.2 (by simp)⟩ (fun hS => ?_)
  clear hK
  refine wpAnyH_take (i := 3) (oi := ⟨some 10, _, _, _, _, _⟩) (v := (.func (.func 60) #[.string ⟨#[112, 108, 97, 110]⟩] #[])) rfl (by kernel_rfl) (by kernel_rfl) (by kernel_rfl) (fun _ _ _ h => h) (Or.inl ⟨by kernel_rfl, fun w' hSw => ?_⟩) hS ?_
  · go_simp
    all_goals first | rfl | (simp [*]; done) | (simp [kindsC]; done) | kernel_rfl
  simp only [Act.put, List.setIfInBounds_toArray, List.set_cons_zero, List.set_cons_succ]
  refine wpAnyH_take (i := 4) (oi := ⟨some 3, _, _, _, _, _⟩) (v := (.func (.func 60) #[.string ⟨#[112, 108, 97, 110]⟩] #[])) rfl (by kernel_rfl) (by kernel_rfl) (by kernel_rfl) (fun _ _ _ h => h) (Or.inl ⟨by kernel_rfl, fun w' hSw => ?_⟩) hS ?_
  · go_simp
    all_goals first | rfl | (simp [*]; done) | (simp [kindsC]; done) | kernel_rfl
  simp only [Act.put, List.setIfInBounds_toArray, List.set_cons_zero, List.set_cons_succ]
  refine wpAnyH_done (by kernel_rfl) ?_ _
  have HS3 := Lib.hid hS
  go_wp2
  refine wp_region_held_drew (S := fun w' => w.grownBy w' none ∧ w'.cell? ⟨B, 0, none⟩ = some (.int .i64 7) ∧ w'.cell? ⟨B, 1, none⟩ = some (.string tn) ∧ w'.cell? ⟨B, 2, none⟩ = some (.string us) ∧ w'.cell? ⟨B, 3, none⟩ = some (.string sp) ∧ w'.cell? ⟨B, 4, none⟩ = some (.int .i64 (run : Int)) ∧ w'.cell? ⟨B, 5, none⟩ = some (.int .i64 (num : Int)) ∧ w'.cell? ⟨B, 6, none⟩ = some (.string tx)) (by kernel_rfl) (⟨grown_drew HS3.out.1, HS3.out.2⟩) (fun hS => ?_)
  refine wpAnyH_take (i := 0) (oi := ⟨some 11, _, _, _, _, _⟩) (v := (.func (.func 60) #[.string ⟨#[112, 108, 97, 110]⟩] #[])) rfl (by kernel_rfl) (by kernel_rfl) (by kernel_rfl) (fun _ _ _ h => h) (Or.inl ⟨by kernel_rfl, fun w' hSw => ?_⟩) hS ?_
  · go_simp
    all_goals first | rfl | (simp [*]; done)
  simp only [Act.put, List.setIfInBounds_toArray, List.set_cons_zero, List.set_cons_succ]
  refine wpAnyH_take (i := 1) (oi := ⟨some 12, _, _, _, _, _⟩) (v := (.pointer (some ⟨B, 1, none⟩))) rfl (by kernel_rfl) (by kernel_rfl) (by kernel_rfl) (fun _ _ _ h => h) (Or.inl ⟨by kernel_rfl, fun w' hSw => ?_⟩) hS ?_
  · go_simp
    all_goals first | rfl | (simp [*]; done)
  simp only [Act.put, List.setIfInBounds_toArray, List.set_cons_zero, List.set_cons_succ]
  refine wpAnyH_take (i := 2) (oi := ⟨some 13, _, _, _, _, _⟩) (v := (.string tn)) rfl (by kernel_rfl) (by kernel_rfl) (by kernel_rfl) (fun _ _ _ h => h) (Or.inl ⟨by kernel_rfl, fun w' hSw => ?_⟩) hS ?_
  · obtain ⟨s1, s2, s3, s4, s5, s6, s7, s8⟩ := hSw
    go_simp
    all_goals first | rfl | (simp [*]; done)
  simp only [Act.put, List.setIfInBounds_toArray, List.set_cons_zero, List.set_cons_succ]
  refine wpAnyH_take (i := 4) (oi := ⟨some 15, _, _, _, _, _⟩) (v := (.pointer (some ⟨B, 2, none⟩))) rfl (by kernel_rfl) (by kernel_rfl) (by kernel_rfl) (fun _ _ _ h => h) (Or.inl ⟨by kernel_rfl, fun w' hSw => ?_⟩) hS ?_
  · go_simp
    all_goals first | rfl | (simp [*]; done)
  simp only [Act.put, List.setIfInBounds_toArray, List.set_cons_zero, List.set_cons_succ]
  refine wpAnyH_take (i := 5) (oi := ⟨some 16, _, _, _, _, _⟩) (v := (.string us)) rfl (by kernel_rfl) (by kernel_rfl) (by kernel_rfl) (fun _ _ _ h => h) (Or.inl ⟨by kernel_rfl, fun w' hSw => ?_⟩) hS ?_
  · obtain ⟨s1, s2, s3, s4, s5, s6, s7, s8⟩ := hSw
    go_simp
    all_goals first | rfl | (simp [*]; done)
  simp only [Act.put, List.setIfInBounds_toArray, List.set_cons_zero, List.set_cons_succ]
  refine wpAnyH_take (i := 7) (oi := ⟨some 18, _, _, _, _, _⟩) (v := (.pointer (some ⟨B, 3, none⟩))) rfl (by kernel_rfl) (by kernel_rfl) (by kernel_rfl) (fun _ _ _ h => h) (Or.inl ⟨by kernel_rfl, fun w' hSw => ?_⟩) hS ?_
  · go_simp
    all_goals first | rfl | (simp [*]; done)
  simp only [Act.put, List.setIfInBounds_toArray, List.set_cons_zero, List.set_cons_succ]
  refine wpAnyH_take (i := 8) (oi := ⟨some 19, _, _, _, _, _⟩) (v := (.string sp)) rfl (by kernel_rfl) (by kernel_rfl) (by kernel_rfl) (fun _ _ _ h => h) (Or.inl ⟨by kernel_rfl, fun w' hSw => ?_⟩) hS ?_
  · obtain ⟨s1, s2, s3, s4, s5, s6, s7, s8⟩ := hSw
    go_simp
    all_goals first | rfl | (simp [*]; done)
  simp only [Act.put, List.setIfInBounds_toArray, List.set_cons_zero, List.set_cons_succ]
  refine wpAnyH_take (i := 10) (oi := ⟨some 21, _, _, _, _, _⟩) (v := (.pointer (some ⟨B, 4, none⟩))) rfl (by kernel_rfl) (by kernel_rfl) (by kernel_rfl) (fun _ _ _ h => h) (Or.inl ⟨by kernel_rfl, fun w' hSw => ?_⟩) hS ?_
  · go_simp
    all_goals first | rfl | (simp [*]; done)
  simp only [Act.put, List.setIfInBounds_toArray, List.set_cons_zero, List.set_cons_succ]
  refine wpAnyH_take (i := 11) (oi := ⟨some 22, _, _, _, _, _⟩) (v := (.int .i64 (run : Int))) rfl (by kernel_rfl) (by kernel_rfl) (by kernel_rfl) (fun _ _ _ h => h) (Or.inl ⟨by kernel_rfl, fun w' hSw => ?_⟩) hS ?_
  · obtain ⟨s1, s2, s3, s4, s5, s6, s7, s8⟩ := hSw
    go_simp
    all_goals first | rfl | (simp [*]; done)
  simp only [Act.put, List.setIfInBounds_toArray, List.set_cons_zero, List.set_cons_succ]
  refine wpAnyH_take (i := 13) (oi := ⟨some 24, _, _, _, _, _⟩) (v := (.pointer (some ⟨B, 5, none⟩))) rfl (by kernel_rfl) (by kernel_rfl) (by kernel_rfl) (fun _ _ _ h => h) (Or.inl ⟨by kernel_rfl, fun w' hSw => ?_⟩) hS ?_
  · go_simp
    all_goals first | rfl | (simp [*]; done)
  simp only [Act.put, List.setIfInBounds_toArray, List.set_cons_zero, List.set_cons_succ]
  refine wpAnyH_take (i := 14) (oi := ⟨some 25, _, _, _, _, _⟩) (v := (.int .i64 (num : Int))) rfl (by kernel_rfl) (by kernel_rfl) (by kernel_rfl) (fun _ _ _ h => h) (Or.inl ⟨by kernel_rfl, fun w' hSw => ?_⟩) hS ?_
  · obtain ⟨s1, s2, s3, s4, s5, s6, s7, s8⟩ := hSw
    go_simp
    all_goals first | rfl | (simp [*]; done)
  simp only [Act.put, List.setIfInBounds_toArray, List.set_cons_zero, List.set_cons_succ]
  refine wpAnyH_take (i := 16) (oi := ⟨some 27, _, _, _, _, _⟩) (v := (.pointer (some ⟨B, 6, none⟩))) rfl (by kernel_rfl) (by kernel_rfl) (by kernel_rfl) (fun _ _ _ h => h) (Or.inl ⟨by kernel_rfl, fun w' hSw => ?_⟩) hS ?_
  · go_simp
    all_goals first | rfl | (simp [*]; done)
  simp only [Act.put, List.setIfInBounds_toArray, List.set_cons_zero, List.set_cons_succ]
  refine wpAnyH_take (i := 17) (oi := ⟨some 28, _, _, _, _, _⟩) (v := (.string tx)) rfl (by kernel_rfl) (by kernel_rfl) (by kernel_rfl) (fun _ _ _ h => h) (Or.inl ⟨by kernel_rfl, fun w' hSw => ?_⟩) hS ?_
  · obtain ⟨s1, s2, s3, s4, s5, s6, s7, s8⟩ := hSw
    go_simp
    all_goals first | rfl | (simp [*]; done)
  simp only [Act.put, List.setIfInBounds_toArray, List.set_cons_zero, List.set_cons_succ]
  refine wpAnyH_ready (rs := [3]) (by kernel_rfl) (by simp) ?_
  refine AllReadyH.cons (o := ⟨some 14, _, _, _, _, _⟩) rfl (fun K hK => ?_) AllReadyH.nil
  go_simp
  refine (HC1.out _).mono ?_
  rintro e wa ⟨rfl, hwa⟩
  have hwa := hwa.symm
  subst hwa
  go_simp
  refine hK.out _ _ hS (fun hS => ?_)
  clear hK
  refine wpAnyH_ready (rs := [6]) (by kernel_rfl) (by simp) ?_
  refine AllReadyH.cons (o := ⟨some 17, _, _, _, _, _⟩) rfl (fun K hK => ?_) AllReadyH.nil
  go_simp
  refine (HC2.out _).mono ?_
  rintro e wa ⟨rfl, hwa⟩
  have hwa := hwa.symm
  subst hwa
  go_simp
  refine hK.out _ _ hS (fun hS => ?_)
  clear hK
  refine wpAnyH_ready (rs := [9]) (by kernel_rfl) (by simp) ?_
  refine AllReadyH.cons (o := ⟨some 20, _, _, _, _, _⟩) rfl (fun K hK => ?_) AllReadyH.nil
  go_simp
  refine (HC3.out _).mono ?_
  rintro e wa ⟨rfl, hwa⟩
  have hwa := hwa.symm
  subst hwa
  go_simp
  refine hK.out _ _ hS (fun hS => ?_)
  clear hK
  refine wpAnyH_ready (rs := [12]) (by kernel_rfl) (by simp) ?_
  refine AllReadyH.cons (o := ⟨some 23, _, _, _, _, _⟩) rfl (fun K hK => ?_) AllReadyH.nil
  go_simp
  refine (HC4.out _ hS.1).mono ?_
  rintro e wa ⟨rfl, hga⟩
  go_simp
  refine hK.out _ _ ⟨grown_trans hS.1 hga, hga.cell hS.2.1 (by simp), hga.cell hS.2.2.1 (by simp), hga.cell hS.2.2.2.1 (by simp), hga.cell hS.2.2.2.2.1 (by simp), hga.cell hS.2.2.2.2.2.1 (by simp), hga.cell hS.2.2.2.2.2.2.1 (by simp), hga.cell hS.2.2.2.2.2.2.2 (by simp)⟩ (fun hS => ?_)
  clear hK
  refine wpAnyH_ready (rs := [15]) (by kernel_rfl) (by simp) ?_
  refine AllReadyH.cons (o := ⟨some 26, _, _, _, _, _⟩) rfl (fun K hK => ?_) AllReadyH.nil
  go_simp
  refine (HC5.out _ hS.1).mono ?_
  rintro e wa ⟨rfl, hga⟩
  go_simp
  refine hK.out _ _ ⟨grown_trans hS.1 hga, hga.cell hS.2.1 (by simp), hga.cell hS.2.2.1 (by simp), hga.cell hS.2.2.2.1 (by simp), hga.cell hS.2.2.2.2.1 (by simp), hga.cell hS.2.2.2.2.2.1 (by simp), hga.cell hS.2.2.2.2.2.2.1 (by simp), hga.cell hS.2.2.2.2.2.2.2 (by simp)⟩ (fun hS => ?_)
  clear hK
  have HS4 := Lib.hid hS
  refine wpAnyH_ready (rs := [18]) (by kernel_rfl) (by simp) ?_
  refine AllReadyH.cons (o := ⟨some 29, _, _, _, _, _⟩) rfl (fun K hK => ?_) AllReadyH.nil
  go_simp
  refine hK.out _ _ ⟨grown_alloc HS4.out.1 _, (World.grownBy_alloc _ _ none).cell HS4.out.2.1 (by simp), (World.grownBy_alloc _ _ none).cell HS4.out.2.2.1 (by simp), (World.grownBy_alloc _ _ none).cell HS4.out.2.2.2.1 (by simp), (World.grownBy_alloc _ _ none).cell HS4.out.2.2.2.2.1 (by simp), (World.grownBy_alloc _ _ none).cell HS4.out.2.2.2.2.2.1 (by simp), (World.grownBy_alloc _ _ none).cell HS4.out.2.2.2.2.2.2.1 (by simp), (World.grownBy_alloc _ _ none).cell HS4.out.2.2.2.2.2.2.2 (by simp)⟩ (fun hS => ?_)
  clear hK
  refine wpAnyH_ready (rs := [19]) (by kernel_rfl) (by simp) ?_
  refine AllReadyH.cons (o := ⟨some 30, _, _, _, _, _⟩) rfl (fun K hK => ?_) AllReadyH.nil
  go_simp
  refine (HLI.out _ _ (fun j u hu => by rw [Addr.add_mid, Nat.zero_add]; exact (Blk.new _ 9 (strs [T1, T2, T3, D1, D2, tx])).cell hu)).mono ?_
  rintro e wa ⟨rfl, hga⟩
  go_simp
  refine hK.out _ _ ⟨grown_trans hS.1 hga, hga.cell hS.2.1 (by simp), hga.cell hS.2.2.1 (by simp), hga.cell hS.2.2.2.1 (by simp), hga.cell hS.2.2.2.2.1 (by simp), hga.cell hS.2.2.2.2.2.1 (by simp), hga.cell hS.2.2.2.2.2.2.1 (by simp), hga.cell hS.2.2.2.2.2.2.2 (by simp)⟩ (fun hS => ?_)
  clear hK
  refine wpAnyH_take (i := 20) (oi := ⟨some 2, _, _, _, _, _⟩) (v := (.string (writeT 7 tn us sp run num tx))) rfl (by kernel_rfl) (by kernel_rfl) (by kernel_rfl) (fun _ _ _ h => h) (Or.inl ⟨by kernel_rfl, fun w' hSw => ?_⟩) hS ?_
  · go_simp
  simp only [Act.put, List.setIfInBounds_toArray, List.set_cons_zero, List.set_cons_succ]
  refine wpAnyH_done (by kernel_rfl) ?_ _
  go_wp2
  go_ret
  exact ⟨rfl, hS.1⟩

set_option maxRecDepth 100000 in
set_option maxHeartbeats 8000000 in
theorem iwrite_8 (w : World) (hP : Pow w) (tn us sp : ByteArray) (run num : Nat) (tx : ByteArray) (h1 : tn.size ≤ 1048576) (h2 : us.size ≤ 1048576) (h3 : sp.size ≤ 1048576) (h4 : tx.size ≤ 1048576) (hp : ReqP 8 tn us sp run num tx) :
    Calls Tryd.prog 31 #[.agg #[.int .i64 8, .string tn, .string us, .string sp, .int .i64 (run : Int), .int .i64 (num : Int), .string tx]] w fun e w' => e = .returned (.string (writeT 8 tn us sp run num tx)) ∧ w.grownBy w' none := by
  have hrun : run < 4611686018427387904 := by have := hp.2.2.2.2.1.2; omega
  have hnum : num < 4611686018427387904 := by have := hp.2.2.2.2.2.1.2; omega
  obtain ⟨W, hW⟩ : ∃ W, w.alloc (Obj.cells #[Value.int .i64 8, .string tn, .string us, .string sp, .int .i64 (run : Int), .int .i64 (num : Int), .string tx] 31) = W := ⟨_, rfl⟩
  obtain ⟨B, hB⟩ : ∃ B, B = w.heap.size := ⟨_, rfl⟩
  have HB := Lib.hid (show Blk W B 31 [.int .i64 8, .string tn, .string us, .string sp, .int .i64 (run : Int), .int .i64 (num : Int), .string tx] from by rw [← hW, hB]; exact Blk.new w 31 _)
  have HG := Lib.hid (show w.grownBy W none from by rw [← hW]; exact grown_alloc (grown_refl _ _) _)
  have HW := Lib.hid hW
  have HBE := Lib.hid hB
  have HRQ := Lib.hid ((ireq_any W 8 tn us sp run num tx h1 h2 h3 h4).mono (R' := fun e w' => e = .returned (.bool true) ∧ W.grownBy w' none) (fun e w' q => ⟨q.1.is_yes hp, q.2⟩))
  have z1 : (wordT tn).size ≤ 7 := wordT_size tn hp.1
  have z2 : (wordT us).size ≤ 7 := wordT_size us hp.2.1
  have z3 : (wordT sp).size ≤ 7 := wordT_size sp hp.2.2.1
  have z4 : (decS run).size ≤ 21 := decS_size run hrun
  have z5 : (decS num).size ≤ 21 := decS_size num hnum
  have HJW := Lib.hid (joinT_write 8 tn us sp run num tx)
  have HLN := Lib.hid (show (Lib.join ((kindW 8 :: [wordT tn, wordT us, wordT sp, decS run, decS num, tx]).map (·.data.toList)) [32]).length ≤ 140737488355328 from by
    have s7 : (kindW 8).size ≤ 7 := kindW_size 8 (by decide)
    simp [Lib.join]
    omega)
  obtain ⟨T1, hT1⟩ : ∃ K, wordT tn = K := ⟨_, rfl⟩
  obtain ⟨T2, hT2⟩ : ∃ K, wordT us = K := ⟨_, rfl⟩
  obtain ⟨T3, hT3⟩ : ∃ K, wordT sp = K := ⟨_, rfl⟩
  obtain ⟨D1, hD1⟩ : ∃ K, decS run = K := ⟨_, rfl⟩
  obtain ⟨D2, hD2⟩ : ∃ K, decS num = K := ⟨_, rfl⟩
  have HALL := Lib.hid (fun (V : World) (hV : w.grownBy V none ∧ W.grownBy V none) => show w.grownBy V none ∧ V.cell? ⟨B, 0, none⟩ = some (.int .i64 8) ∧ V.cell? ⟨B, 1, none⟩ = some (.string tn) ∧ V.cell? ⟨B, 2, none⟩ = some (.string us) ∧ V.cell? ⟨B, 3, none⟩ = some (.string sp) ∧ V.cell? ⟨B, 4, none⟩ = some (.int .i64 (run : Int)) ∧ V.cell? ⟨B, 5, none⟩ = some (.int .i64 (num : Int)) ∧ V.cell? ⟨B, 6, none⟩ = some (.string tx) from ⟨hV.1, hV.2.cell (HB.out.cell rfl) (by simp), hV.2.cell (HB.out.cell rfl) (by simp), hV.2.cell (HB.out.cell rfl) (by simp), hV.2.cell (HB.out.cell rfl) (by simp), hV.2.cell (HB.out.cell rfl) (by simp), hV.2.cell (HB.out.cell rfl) (by simp), hV.2.cell (HB.out.cell rfl) (by simp)⟩)
  have HPW := Lib.hid (fun (V : World) (hV : w.grownBy V none) => hP.grown hV)
  have HC1 := Lib.hid (fun (V : World) => (iword_any V tn).mono (R' := fun e w' => e = .returned (.string T1) ∧ w' = V) (fun e w' q => ⟨by rw [q.1, hT1], q.2⟩))
  have HC2 := Lib.hid (fun (V : World) => (iword_any V us).mono (R' := fun e w' => e = .returned (.string T2) ∧ w' = V) (fun e w' q => ⟨by rw [q.1, hT2], q.2⟩))
  have HC3 := Lib.hid (fun (V : World) => (iword_any V sp).mono (R' := fun e w' => e = .returned (.string T3) ∧ w' = V) (fun e w' q => ⟨by rw [q.1, hT3], q.2⟩))
  have HC4 := Lib.hid (fun (V : World) (hV : w.grownBy V none) => (itoa_nat run (by omega) V (HPW.out V hV)).mono (R' := fun e w' => e = .returned (.string D1) ∧ V.grownBy w' none) (fun e w' q => ⟨by rw [q.1, hD1], q.2⟩))
  have HC5 := Lib.hid (fun (V : World) (hV : w.grownBy V none) => (itoa_nat num (by omega) V (HPW.out V hV)).mono (R' := fun e w' => e = .returned (.string D2) ∧ V.grownBy w' none) (fun e w' q => ⟨by rw [q.1, hD2], q.2⟩))
  have HKL := Lib.hid (fun (V : World) => ikinds_any V)
  rw [hT1, hT2, hT3, hD1, hD2] at HJW HLN
  have HLI := Lib.hid (fun (V : World) (g : Nat) (hg : At V ⟨g, 0, none⟩ [T1, T2, T3, D1, D2, tx]) => (line_any V (kindW 8) g 0 6 [T1, T2, T3, D1, D2, tx] hg (by simp) HLN.out).mono (R' := fun e w' => e = .returned (.string (writeT 8 tn us sp run num tx)) ∧ V.grownBy w' none) (fun e w' q => ⟨by rw [q.1, HJW.out], q.2⟩))
  clear hp hP hW hB h1 h2 h3 h4 hT1 hT2 hT3 hD1 hD2 z1 z2 z3 z4 z5 hrun hnum HJW HLN
  go_enter Tryd.func31, Tryd.ntmps31
  go_wp2_with fail
  rw [HW.out]
  refine HRQ.out.mono ?_
  rintro e w1 ⟨rfl, hg1⟩
  have HG1 := Lib.hid (grown_trans HG.out hg1)
  have HX1 := Lib.hid hg1
  clear hg1 HRQ
  go_wp2
  rw [← HBE.out]
  refine wp_region_held_drew (S := fun w' => w.grownBy w' none ∧ w'.cell? ⟨B, 0, none⟩ = some (.int .i64 8) ∧ w'.cell? ⟨B, 1, none⟩ = some (.string tn) ∧ w'.cell? ⟨B, 2, none⟩ = some (.string us) ∧ w'.cell? ⟨B, 3, none⟩ = some (.string sp) ∧ w'.cell? ⟨B, 4, none⟩ = some (.int .i64 (run : Int)) ∧ w'.cell? ⟨B, 5, none⟩ = some (.int .i64 (num : Int)) ∧ w'.cell? ⟨B, 6, none⟩ = some (.string tx)) (by kernel_rfl) (HALL.out _ ⟨grown_drew HG1.out, grown_drew HX1.out⟩) (fun hS => ?_)
  refine wpAnyH_take (i := 1) (oi := ⟨some 8, _, _, _, _, _⟩) (v := (.pointer (some ⟨B, 0, none⟩))) rfl (by kernel_rfl) (by kernel_rfl) (by kernel_rfl) (fun _ _ _ h => h) (Or.inl ⟨by kernel_rfl, fun w' hSw => ?_⟩) hS ?_
  · go_simp
    all_goals first | rfl | (simp [*]; done) | (simp [kindsC]; done) | kernel_rfl
  simp only [Act.put, List.setIfInBounds_toArray, List.set_cons_zero, List.set_cons_succ]
  refine wpAnyH_take (i := 2) (oi := ⟨some 9, _, _, _, _, _⟩) (v := (.int .i64 8)) rfl (by kernel_rfl) (by kernel_rfl) (by kernel_rfl) (fun _ _ _ h => h) (Or.inl ⟨by kernel_rfl, fun w' hSw => ?_⟩) hS ?_
  · obtain ⟨s1, s2, s3, s4, s5, s6, s7, s8⟩ := hSw
    go_simp
    all_goals first | rfl | (simp [*]; done) | (simp [kindsC]; done) | kernel_rfl
  simp only [Act.put, List.setIfInBounds_toArray, List.set_cons_zero, List.set_cons_succ]
  refine wpAnyH_ready (rs := [0]) (by kernel_rfl) (by simp) ?_
  refine AllReadyH.cons (o := ⟨some 7, _, _, _, _, _⟩) rfl (fun K hK => ?_) AllReadyH.nil
  go_simp
  refine (HKL.out _).mono ?_
  rintro e wa ⟨rfl, hga⟩
  go_simp
  refine hK.out _ _ ⟨grown_trans hS.1 hga, hga.cell hS.2.1 (by simp), hga.cell hS.2.2.1 (by simp), hga.cell hS.2.2.2.1 (by simp), hga.cell hS.2.2.2.2.1 (by simp), hga.cell hS.2.2.2.2.2.1 (by simp), hga.cell hS.2.2.2.2.2.2.1 (by simp), hga.cell hS.2.2.2.2.2.2.2 (by simp)⟩ (fun hS => ?_)
  clear hK
  refine wpAnyH_take (i := 3) (oi := ⟨some 10, _, _, _, _, _⟩) (v := (.func (.func 60) #[.string ⟨#[97, 112, 112, 114, 111, 118, 101]⟩] #[])) rfl (by kernel_rfl) (by kernel_rfl) (by kernel_rfl) (fun _ _ _ h => h) (Or.inl ⟨by kernel_rfl, fun w' hSw => ?_⟩) hS ?_
  · go_simp
    all_goals first | rfl | (simp [*]; done) | (simp [kindsC]; done) | kernel_rfl
  simp only [Act.put, List.setIfInBounds_toArray, List.set_cons_zero, List.set_cons_succ]
  refine wpAnyH_take (i := 4) (oi := ⟨some 3, _, _, _, _, _⟩) (v := (.func (.func 60) #[.string ⟨#[97, 112, 112, 114, 111, 118, 101]⟩] #[])) rfl (by kernel_rfl) (by kernel_rfl) (by kernel_rfl) (fun _ _ _ h => h) (Or.inl ⟨by kernel_rfl, fun w' hSw => ?_⟩) hS ?_
  · go_simp
    all_goals first | rfl | (simp [*]; done) | (simp [kindsC]; done) | kernel_rfl
  simp only [Act.put, List.setIfInBounds_toArray, List.set_cons_zero, List.set_cons_succ]
  refine wpAnyH_done (by kernel_rfl) ?_ _
  have HS3 := Lib.hid hS
  go_wp2
  refine wp_region_held_drew (S := fun w' => w.grownBy w' none ∧ w'.cell? ⟨B, 0, none⟩ = some (.int .i64 8) ∧ w'.cell? ⟨B, 1, none⟩ = some (.string tn) ∧ w'.cell? ⟨B, 2, none⟩ = some (.string us) ∧ w'.cell? ⟨B, 3, none⟩ = some (.string sp) ∧ w'.cell? ⟨B, 4, none⟩ = some (.int .i64 (run : Int)) ∧ w'.cell? ⟨B, 5, none⟩ = some (.int .i64 (num : Int)) ∧ w'.cell? ⟨B, 6, none⟩ = some (.string tx)) (by kernel_rfl) (⟨grown_drew HS3.out.1, HS3.out.2⟩) (fun hS => ?_)
  refine wpAnyH_take (i := 0) (oi := ⟨some 11, _, _, _, _, _⟩) (v := (.func (.func 60) #[.string ⟨#[97, 112, 112, 114, 111, 118, 101]⟩] #[])) rfl (by kernel_rfl) (by kernel_rfl) (by kernel_rfl) (fun _ _ _ h => h) (Or.inl ⟨by kernel_rfl, fun w' hSw => ?_⟩) hS ?_
  · go_simp
    all_goals first | rfl | (simp [*]; done)
  simp only [Act.put, List.setIfInBounds_toArray, List.set_cons_zero, List.set_cons_succ]
  refine wpAnyH_take (i := 1) (oi := ⟨some 12, _, _, _, _, _⟩) (v := (.pointer (some ⟨B, 1, none⟩))) rfl (by kernel_rfl) (by kernel_rfl) (by kernel_rfl) (fun _ _ _ h => h) (Or.inl ⟨by kernel_rfl, fun w' hSw => ?_⟩) hS ?_
  · go_simp
    all_goals first | rfl | (simp [*]; done)
  simp only [Act.put, List.setIfInBounds_toArray, List.set_cons_zero, List.set_cons_succ]
  refine wpAnyH_take (i := 2) (oi := ⟨some 13, _, _, _, _, _⟩) (v := (.string tn)) rfl (by kernel_rfl) (by kernel_rfl) (by kernel_rfl) (fun _ _ _ h => h) (Or.inl ⟨by kernel_rfl, fun w' hSw => ?_⟩) hS ?_
  · obtain ⟨s1, s2, s3, s4, s5, s6, s7, s8⟩ := hSw
    go_simp
    all_goals first | rfl | (simp [*]; done)
  simp only [Act.put, List.setIfInBounds_toArray, List.set_cons_zero, List.set_cons_succ]
  refine wpAnyH_take (i := 4) (oi := ⟨some 15, _, _, _, _, _⟩) (v := (.pointer (some ⟨B, 2, none⟩))) rfl (by kernel_rfl) (by kernel_rfl) (by kernel_rfl) (fun _ _ _ h => h) (Or.inl ⟨by kernel_rfl, fun w' hSw => ?_⟩) hS ?_
  · go_simp
    all_goals first | rfl | (simp [*]; done)
  simp only [Act.put, List.setIfInBounds_toArray, List.set_cons_zero, List.set_cons_succ]
  refine wpAnyH_take (i := 5) (oi := ⟨some 16, _, _, _, _, _⟩) (v := (.string us)) rfl (by kernel_rfl) (by kernel_rfl) (by kernel_rfl) (fun _ _ _ h => h) (Or.inl ⟨by kernel_rfl, fun w' hSw => ?_⟩) hS ?_
  · obtain ⟨s1, s2, s3, s4, s5, s6, s7, s8⟩ := hSw
    go_simp
    all_goals first | rfl | (simp [*]; done)
  simp only [Act.put, List.setIfInBounds_toArray, List.set_cons_zero, List.set_cons_succ]
  refine wpAnyH_take (i := 7) (oi := ⟨some 18, _, _, _, _, _⟩) (v := (.pointer (some ⟨B, 3, none⟩))) rfl (by kernel_rfl) (by kernel_rfl) (by kernel_rfl) (fun _ _ _ h => h) (Or.inl ⟨by kernel_rfl, fun w' hSw => ?_⟩) hS ?_
  · go_simp
    all_goals first | rfl | (simp [*]; done)
  simp only [Act.put, List.setIfInBounds_toArray, List.set_cons_zero, List.set_cons_succ]
  refine wpAnyH_take (i := 8) (oi := ⟨some 19, _, _, _, _, _⟩) (v := (.string sp)) rfl (by kernel_rfl) (by kernel_rfl) (by kernel_rfl) (fun _ _ _ h => h) (Or.inl ⟨by kernel_rfl, fun w' hSw => ?_⟩) hS ?_
  · obtain ⟨s1, s2, s3, s4, s5, s6, s7, s8⟩ := hSw
    go_simp
    all_goals first | rfl | (simp [*]; done)
  simp only [Act.put, List.setIfInBounds_toArray, List.set_cons_zero, List.set_cons_succ]
  refine wpAnyH_take (i := 10) (oi := ⟨some 21, _, _, _, _, _⟩) (v := (.pointer (some ⟨B, 4, none⟩))) rfl (by kernel_rfl) (by kernel_rfl) (by kernel_rfl) (fun _ _ _ h => h) (Or.inl ⟨by kernel_rfl, fun w' hSw => ?_⟩) hS ?_
  · go_simp
    all_goals first | rfl | (simp [*]; done)
  simp only [Act.put, List.setIfInBounds_toArray, List.set_cons_zero, List.set_cons_succ]
  refine wpAnyH_take (i := 11) (oi := ⟨some 22, _, _, _, _, _⟩) (v := (.int .i64 (run : Int))) rfl (by kernel_rfl) (by kernel_rfl) (by kernel_rfl) (fun _ _ _ h => h) (Or.inl ⟨by kernel_rfl, fun w' hSw => ?_⟩) hS ?_
  · obtain ⟨s1, s2, s3, s4, s5, s6, s7, s8⟩ := hSw
    go_simp
    all_goals first | rfl | (simp [*]; done)
  simp only [Act.put, List.setIfInBounds_toArray, List.set_cons_zero, List.set_cons_succ]
  refine wpAnyH_take (i := 13) (oi := ⟨some 24, _, _, _, _, _⟩) (v := (.pointer (some ⟨B, 5, none⟩))) rfl (by kernel_rfl) (by kernel_rfl) (by kernel_rfl) (fun _ _ _ h => h) (Or.inl ⟨by kernel_rfl, fun w' hSw => ?_⟩) hS ?_
  · go_simp
    all_goals first | rfl | (simp [*]; done)
  simp only [Act.put, List.setIfInBounds_toArray, List.set_cons_zero, List.set_cons_succ]
  refine wpAnyH_take (i := 14) (oi := ⟨some 25, _, _, _, _, _⟩) (v := (.int .i64 (num : Int))) rfl (by kernel_rfl) (by kernel_rfl) (by kernel_rfl) (fun _ _ _ h => h) (Or.inl ⟨by kernel_rfl, fun w' hSw => ?_⟩) hS ?_
  · obtain ⟨s1, s2, s3, s4, s5, s6, s7, s8⟩ := hSw
    go_simp
    all_goals first | rfl | (simp [*]; done)
  simp only [Act.put, List.setIfInBounds_toArray, List.set_cons_zero, List.set_cons_succ]
  refine wpAnyH_take (i := 16) (oi := ⟨some 27, _, _, _, _, _⟩) (v := (.pointer (some ⟨B, 6, none⟩))) rfl (by kernel_rfl) (by kernel_rfl) (by kernel_rfl) (fun _ _ _ h => h) (Or.inl ⟨by kernel_rfl, fun w' hSw => ?_⟩) hS ?_
  · go_simp
    all_goals first | rfl | (simp [*]; done)
  simp only [Act.put, List.setIfInBounds_toArray, List.set_cons_zero, List.set_cons_succ]
  refine wpAnyH_take (i := 17) (oi := ⟨some 28, _, _, _, _, _⟩) (v := (.string tx)) rfl (by kernel_rfl) (by kernel_rfl) (by kernel_rfl) (fun _ _ _ h => h) (Or.inl ⟨by kernel_rfl, fun w' hSw => ?_⟩) hS ?_
  · obtain ⟨s1, s2, s3, s4, s5, s6, s7, s8⟩ := hSw
    go_simp
    all_goals first | rfl | (simp [*]; done)
  simp only [Act.put, List.setIfInBounds_toArray, List.set_cons_zero, List.set_cons_succ]
  refine wpAnyH_ready (rs := [3]) (by kernel_rfl) (by simp) ?_
  refine AllReadyH.cons (o := ⟨some 14, _, _, _, _, _⟩) rfl (fun K hK => ?_) AllReadyH.nil
  go_simp
  refine (HC1.out _).mono ?_
  rintro e wa ⟨rfl, hwa⟩
  have hwa := hwa.symm
  subst hwa
  go_simp
  refine hK.out _ _ hS (fun hS => ?_)
  clear hK
  refine wpAnyH_ready (rs := [6]) (by kernel_rfl) (by simp) ?_
  refine AllReadyH.cons (o := ⟨some 17, _, _, _, _, _⟩) rfl (fun K hK => ?_) AllReadyH.nil
  go_simp
  refine (HC2.out _).mono ?_
  rintro e wa ⟨rfl, hwa⟩
  have hwa := hwa.symm
  subst hwa
  go_simp
  refine hK.out _ _ hS (fun hS => ?_)
  clear hK
  refine wpAnyH_ready (rs := [9]) (by kernel_rfl) (by simp) ?_
  refine AllReadyH.cons (o := ⟨some 20, _, _, _, _, _⟩) rfl (fun K hK => ?_) AllReadyH.nil
  go_simp
  refine (HC3.out _).mono ?_
  rintro e wa ⟨rfl, hwa⟩
  have hwa := hwa.symm
  subst hwa
  go_simp
  refine hK.out _ _ hS (fun hS => ?_)
  clear hK
  refine wpAnyH_ready (rs := [12]) (by kernel_rfl) (by simp) ?_
  refine AllReadyH.cons (o := ⟨some 23, _, _, _, _, _⟩) rfl (fun K hK => ?_) AllReadyH.nil
  go_simp
  refine (HC4.out _ hS.1).mono ?_
  rintro e wa ⟨rfl, hga⟩
  go_simp
  refine hK.out _ _ ⟨grown_trans hS.1 hga, hga.cell hS.2.1 (by simp), hga.cell hS.2.2.1 (by simp), hga.cell hS.2.2.2.1 (by simp), hga.cell hS.2.2.2.2.1 (by simp), hga.cell hS.2.2.2.2.2.1 (by simp), hga.cell hS.2.2.2.2.2.2.1 (by simp), hga.cell hS.2.2.2.2.2.2.2 (by simp)⟩ (fun hS => ?_)
  clear hK
  refine wpAnyH_ready (rs := [15]) (by kernel_rfl) (by simp) ?_
  refine AllReadyH.cons (o := ⟨some 26, _, _, _, _, _⟩) rfl (fun K hK => ?_) AllReadyH.nil
  go_simp
  refine (HC5.out _ hS.1).mono ?_
  rintro e wa ⟨rfl, hga⟩
  go_simp
  refine hK.out _ _ ⟨grown_trans hS.1 hga, hga.cell hS.2.1 (by simp), hga.cell hS.2.2.1 (by simp), hga.cell hS.2.2.2.1 (by simp), hga.cell hS.2.2.2.2.1 (by simp), hga.cell hS.2.2.2.2.2.1 (by simp), hga.cell hS.2.2.2.2.2.2.1 (by simp), hga.cell hS.2.2.2.2.2.2.2 (by simp)⟩ (fun hS => ?_)
  clear hK
  have HS4 := Lib.hid hS
  refine wpAnyH_ready (rs := [18]) (by kernel_rfl) (by simp) ?_
  refine AllReadyH.cons (o := ⟨some 29, _, _, _, _, _⟩) rfl (fun K hK => ?_) AllReadyH.nil
  go_simp
  refine hK.out _ _ ⟨grown_alloc HS4.out.1 _, (World.grownBy_alloc _ _ none).cell HS4.out.2.1 (by simp), (World.grownBy_alloc _ _ none).cell HS4.out.2.2.1 (by simp), (World.grownBy_alloc _ _ none).cell HS4.out.2.2.2.1 (by simp), (World.grownBy_alloc _ _ none).cell HS4.out.2.2.2.2.1 (by simp), (World.grownBy_alloc _ _ none).cell HS4.out.2.2.2.2.2.1 (by simp), (World.grownBy_alloc _ _ none).cell HS4.out.2.2.2.2.2.2.1 (by simp), (World.grownBy_alloc _ _ none).cell HS4.out.2.2.2.2.2.2.2 (by simp)⟩ (fun hS => ?_)
  clear hK
  refine wpAnyH_ready (rs := [19]) (by kernel_rfl) (by simp) ?_
  refine AllReadyH.cons (o := ⟨some 30, _, _, _, _, _⟩) rfl (fun K hK => ?_) AllReadyH.nil
  go_simp
  refine (HLI.out _ _ (fun j u hu => by rw [Addr.add_mid, Nat.zero_add]; exact (Blk.new _ 9 (strs [T1, T2, T3, D1, D2, tx])).cell hu)).mono ?_
  rintro e wa ⟨rfl, hga⟩
  go_simp
  refine hK.out _ _ ⟨grown_trans hS.1 hga, hga.cell hS.2.1 (by simp), hga.cell hS.2.2.1 (by simp), hga.cell hS.2.2.2.1 (by simp), hga.cell hS.2.2.2.2.1 (by simp), hga.cell hS.2.2.2.2.2.1 (by simp), hga.cell hS.2.2.2.2.2.2.1 (by simp), hga.cell hS.2.2.2.2.2.2.2 (by simp)⟩ (fun hS => ?_)
  clear hK
  refine wpAnyH_take (i := 20) (oi := ⟨some 2, _, _, _, _, _⟩) (v := (.string (writeT 8 tn us sp run num tx))) rfl (by kernel_rfl) (by kernel_rfl) (by kernel_rfl) (fun _ _ _ h => h) (Or.inl ⟨by kernel_rfl, fun w' hSw => ?_⟩) hS ?_
  · go_simp
  simp only [Act.put, List.setIfInBounds_toArray, List.set_cons_zero, List.set_cons_succ]
  refine wpAnyH_done (by kernel_rfl) ?_ _
  go_wp2
  go_ret
  exact ⟨rfl, hS.1⟩

set_option maxRecDepth 100000 in
set_option maxHeartbeats 8000000 in
theorem iwrite_9 (w : World) (hP : Pow w) (tn us sp : ByteArray) (run num : Nat) (tx : ByteArray) (h1 : tn.size ≤ 1048576) (h2 : us.size ≤ 1048576) (h3 : sp.size ≤ 1048576) (h4 : tx.size ≤ 1048576) (hp : ReqP 9 tn us sp run num tx) :
    Calls Tryd.prog 31 #[.agg #[.int .i64 9, .string tn, .string us, .string sp, .int .i64 (run : Int), .int .i64 (num : Int), .string tx]] w fun e w' => e = .returned (.string (writeT 9 tn us sp run num tx)) ∧ w.grownBy w' none := by
  have hrun : run < 4611686018427387904 := by have := hp.2.2.2.2.1.2; omega
  have hnum : num < 4611686018427387904 := by have := hp.2.2.2.2.2.1.2; omega
  obtain ⟨W, hW⟩ : ∃ W, w.alloc (Obj.cells #[Value.int .i64 9, .string tn, .string us, .string sp, .int .i64 (run : Int), .int .i64 (num : Int), .string tx] 31) = W := ⟨_, rfl⟩
  obtain ⟨B, hB⟩ : ∃ B, B = w.heap.size := ⟨_, rfl⟩
  have HB := Lib.hid (show Blk W B 31 [.int .i64 9, .string tn, .string us, .string sp, .int .i64 (run : Int), .int .i64 (num : Int), .string tx] from by rw [← hW, hB]; exact Blk.new w 31 _)
  have HG := Lib.hid (show w.grownBy W none from by rw [← hW]; exact grown_alloc (grown_refl _ _) _)
  have HW := Lib.hid hW
  have HBE := Lib.hid hB
  have HRQ := Lib.hid ((ireq_any W 9 tn us sp run num tx h1 h2 h3 h4).mono (R' := fun e w' => e = .returned (.bool true) ∧ W.grownBy w' none) (fun e w' q => ⟨q.1.is_yes hp, q.2⟩))
  have z1 : (wordT tn).size ≤ 7 := wordT_size tn hp.1
  have z2 : (wordT us).size ≤ 7 := wordT_size us hp.2.1
  have z3 : (wordT sp).size ≤ 7 := wordT_size sp hp.2.2.1
  have z4 : (decS run).size ≤ 21 := decS_size run hrun
  have z5 : (decS num).size ≤ 21 := decS_size num hnum
  have HJW := Lib.hid (joinT_write 9 tn us sp run num tx)
  have HLN := Lib.hid (show (Lib.join ((kindW 9 :: [wordT tn, wordT us, wordT sp, decS run, decS num, tx]).map (·.data.toList)) [32]).length ≤ 140737488355328 from by
    have s7 : (kindW 9).size ≤ 7 := kindW_size 9 (by decide)
    simp [Lib.join]
    omega)
  obtain ⟨T1, hT1⟩ : ∃ K, wordT tn = K := ⟨_, rfl⟩
  obtain ⟨T2, hT2⟩ : ∃ K, wordT us = K := ⟨_, rfl⟩
  obtain ⟨T3, hT3⟩ : ∃ K, wordT sp = K := ⟨_, rfl⟩
  obtain ⟨D1, hD1⟩ : ∃ K, decS run = K := ⟨_, rfl⟩
  obtain ⟨D2, hD2⟩ : ∃ K, decS num = K := ⟨_, rfl⟩
  have HALL := Lib.hid (fun (V : World) (hV : w.grownBy V none ∧ W.grownBy V none) => show w.grownBy V none ∧ V.cell? ⟨B, 0, none⟩ = some (.int .i64 9) ∧ V.cell? ⟨B, 1, none⟩ = some (.string tn) ∧ V.cell? ⟨B, 2, none⟩ = some (.string us) ∧ V.cell? ⟨B, 3, none⟩ = some (.string sp) ∧ V.cell? ⟨B, 4, none⟩ = some (.int .i64 (run : Int)) ∧ V.cell? ⟨B, 5, none⟩ = some (.int .i64 (num : Int)) ∧ V.cell? ⟨B, 6, none⟩ = some (.string tx) from ⟨hV.1, hV.2.cell (HB.out.cell rfl) (by simp), hV.2.cell (HB.out.cell rfl) (by simp), hV.2.cell (HB.out.cell rfl) (by simp), hV.2.cell (HB.out.cell rfl) (by simp), hV.2.cell (HB.out.cell rfl) (by simp), hV.2.cell (HB.out.cell rfl) (by simp), hV.2.cell (HB.out.cell rfl) (by simp)⟩)
  have HPW := Lib.hid (fun (V : World) (hV : w.grownBy V none) => hP.grown hV)
  have HC1 := Lib.hid (fun (V : World) => (iword_any V tn).mono (R' := fun e w' => e = .returned (.string T1) ∧ w' = V) (fun e w' q => ⟨by rw [q.1, hT1], q.2⟩))
  have HC2 := Lib.hid (fun (V : World) => (iword_any V us).mono (R' := fun e w' => e = .returned (.string T2) ∧ w' = V) (fun e w' q => ⟨by rw [q.1, hT2], q.2⟩))
  have HC3 := Lib.hid (fun (V : World) => (iword_any V sp).mono (R' := fun e w' => e = .returned (.string T3) ∧ w' = V) (fun e w' q => ⟨by rw [q.1, hT3], q.2⟩))
  have HC4 := Lib.hid (fun (V : World) (hV : w.grownBy V none) => (itoa_nat run (by omega) V (HPW.out V hV)).mono (R' := fun e w' => e = .returned (.string D1) ∧ V.grownBy w' none) (fun e w' q => ⟨by rw [q.1, hD1], q.2⟩))
  have HC5 := Lib.hid (fun (V : World) (hV : w.grownBy V none) => (itoa_nat num (by omega) V (HPW.out V hV)).mono (R' := fun e w' => e = .returned (.string D2) ∧ V.grownBy w' none) (fun e w' q => ⟨by rw [q.1, hD2], q.2⟩))
  have HKL := Lib.hid (fun (V : World) => ikinds_any V)
  rw [hT1, hT2, hT3, hD1, hD2] at HJW HLN
  have HLI := Lib.hid (fun (V : World) (g : Nat) (hg : At V ⟨g, 0, none⟩ [T1, T2, T3, D1, D2, tx]) => (line_any V (kindW 9) g 0 6 [T1, T2, T3, D1, D2, tx] hg (by simp) HLN.out).mono (R' := fun e w' => e = .returned (.string (writeT 9 tn us sp run num tx)) ∧ V.grownBy w' none) (fun e w' q => ⟨by rw [q.1, HJW.out], q.2⟩))
  clear hp hP hW hB h1 h2 h3 h4 hT1 hT2 hT3 hD1 hD2 z1 z2 z3 z4 z5 hrun hnum HJW HLN
  go_enter Tryd.func31, Tryd.ntmps31
  go_wp2_with fail
  rw [HW.out]
  refine HRQ.out.mono ?_
  rintro e w1 ⟨rfl, hg1⟩
  have HG1 := Lib.hid (grown_trans HG.out hg1)
  have HX1 := Lib.hid hg1
  clear hg1 HRQ
  go_wp2
  rw [← HBE.out]
  refine wp_region_held_drew (S := fun w' => w.grownBy w' none ∧ w'.cell? ⟨B, 0, none⟩ = some (.int .i64 9) ∧ w'.cell? ⟨B, 1, none⟩ = some (.string tn) ∧ w'.cell? ⟨B, 2, none⟩ = some (.string us) ∧ w'.cell? ⟨B, 3, none⟩ = some (.string sp) ∧ w'.cell? ⟨B, 4, none⟩ = some (.int .i64 (run : Int)) ∧ w'.cell? ⟨B, 5, none⟩ = some (.int .i64 (num : Int)) ∧ w'.cell? ⟨B, 6, none⟩ = some (.string tx)) (by kernel_rfl) (HALL.out _ ⟨grown_drew HG1.out, grown_drew HX1.out⟩) (fun hS => ?_)
  refine wpAnyH_take (i := 1) (oi := ⟨some 8, _, _, _, _, _⟩) (v := (.pointer (some ⟨B, 0, none⟩))) rfl (by kernel_rfl) (by kernel_rfl) (by kernel_rfl) (fun _ _ _ h => h) (Or.inl ⟨by kernel_rfl, fun w' hSw => ?_⟩) hS ?_
  · go_simp
    all_goals first | rfl | (simp [*]; done) | (simp [kindsC]; done) | kernel_rfl
  simp only [Act.put, List.setIfInBounds_toArray, List.set_cons_zero, List.set_cons_succ]
  refine wpAnyH_take (i := 2) (oi := ⟨some 9, _, _, _, _, _⟩) (v := (.int .i64 9)) rfl (by kernel_rfl) (by kernel_rfl) (by kernel_rfl) (fun _ _ _ h => h) (Or.inl ⟨by kernel_rfl, fun w' hSw => ?_⟩) hS ?_
  · obtain ⟨s1, s2, s3, s4, s5, s6, s7, s8⟩ := hSw
    go_simp
    all_goals first | rfl | (simp [*]; done) | (simp [kindsC]; done) | kernel_rfl
  simp only [Act.put, List.setIfInBounds_toArray, List.set_cons_zero, List.set_cons_succ]
  refine wpAnyH_ready (rs := [0]) (by kernel_rfl) (by simp) ?_
  refine AllReadyH.cons (o := ⟨some 7, _, _, _, _, _⟩) rfl (fun K hK => ?_) AllReadyH.nil
  go_simp
  refine (HKL.out _).mono ?_
  rintro e wa ⟨rfl, hga⟩
  go_simp
  refine hK.out _ _ ⟨grown_trans hS.1 hga, hga.cell hS.2.1 (by simp), hga.cell hS.2.2.1 (by simp), hga.cell hS.2.2.2.1 (by simp), hga.cell hS.2.2.2.2.1 (by simp), hga.cell hS.2.2.2.2.2.1 (by simp), hga.cell hS.2.2.2.2.2.2.1 (by simp), hga.cell hS.2.2.2.2.2.2.2 (by simp)⟩ (fun hS => ?_)
  clear hK
  refine wpAnyH_take (i := 3) (oi := ⟨some 10, _, _, _, _, _⟩) (v := (.func (.func 60) #[.string ⟨#[99, 97, 110, 99, 101, 108]⟩] #[])) rfl (by kernel_rfl) (by kernel_rfl) (by kernel_rfl) (fun _ _ _ h => h) (Or.inl ⟨by kernel_rfl, fun w' hSw => ?_⟩) hS ?_
  · go_simp
    all_goals first | rfl | (simp [*]; done) | (simp [kindsC]; done) | kernel_rfl
  simp only [Act.put, List.setIfInBounds_toArray, List.set_cons_zero, List.set_cons_succ]
  refine wpAnyH_take (i := 4) (oi := ⟨some 3, _, _, _, _, _⟩) (v := (.func (.func 60) #[.string ⟨#[99, 97, 110, 99, 101, 108]⟩] #[])) rfl (by kernel_rfl) (by kernel_rfl) (by kernel_rfl) (fun _ _ _ h => h) (Or.inl ⟨by kernel_rfl, fun w' hSw => ?_⟩) hS ?_
  · go_simp
    all_goals first | rfl | (simp [*]; done) | (simp [kindsC]; done) | kernel_rfl
  simp only [Act.put, List.setIfInBounds_toArray, List.set_cons_zero, List.set_cons_succ]
  refine wpAnyH_done (by kernel_rfl) ?_ _
  have HS3 := Lib.hid hS
  go_wp2
  refine wp_region_held_drew (S := fun w' => w.grownBy w' none ∧ w'.cell? ⟨B, 0, none⟩ = some (.int .i64 9) ∧ w'.cell? ⟨B, 1, none⟩ = some (.string tn) ∧ w'.cell? ⟨B, 2, none⟩ = some (.string us) ∧ w'.cell? ⟨B, 3, none⟩ = some (.string sp) ∧ w'.cell? ⟨B, 4, none⟩ = some (.int .i64 (run : Int)) ∧ w'.cell? ⟨B, 5, none⟩ = some (.int .i64 (num : Int)) ∧ w'.cell? ⟨B, 6, none⟩ = some (.string tx)) (by kernel_rfl) (⟨grown_drew HS3.out.1, HS3.out.2⟩) (fun hS => ?_)
  refine wpAnyH_take (i := 0) (oi := ⟨some 11, _, _, _, _, _⟩) (v := (.func (.func 60) #[.string ⟨#[99, 97, 110, 99, 101, 108]⟩] #[])) rfl (by kernel_rfl) (by kernel_rfl) (by kernel_rfl) (fun _ _ _ h => h) (Or.inl ⟨by kernel_rfl, fun w' hSw => ?_⟩) hS ?_
  · go_simp
    all_goals first | rfl | (simp [*]; done)
  simp only [Act.put, List.setIfInBounds_toArray, List.set_cons_zero, List.set_cons_succ]
  refine wpAnyH_take (i := 1) (oi := ⟨some 12, _, _, _, _, _⟩) (v := (.pointer (some ⟨B, 1, none⟩))) rfl (by kernel_rfl) (by kernel_rfl) (by kernel_rfl) (fun _ _ _ h => h) (Or.inl ⟨by kernel_rfl, fun w' hSw => ?_⟩) hS ?_
  · go_simp
    all_goals first | rfl | (simp [*]; done)
  simp only [Act.put, List.setIfInBounds_toArray, List.set_cons_zero, List.set_cons_succ]
  refine wpAnyH_take (i := 2) (oi := ⟨some 13, _, _, _, _, _⟩) (v := (.string tn)) rfl (by kernel_rfl) (by kernel_rfl) (by kernel_rfl) (fun _ _ _ h => h) (Or.inl ⟨by kernel_rfl, fun w' hSw => ?_⟩) hS ?_
  · obtain ⟨s1, s2, s3, s4, s5, s6, s7, s8⟩ := hSw
    go_simp
    all_goals first | rfl | (simp [*]; done)
  simp only [Act.put, List.setIfInBounds_toArray, List.set_cons_zero, List.set_cons_succ]
  refine wpAnyH_take (i := 4) (oi := ⟨some 15, _, _, _, _, _⟩) (v := (.pointer (some ⟨B, 2, none⟩))) rfl (by kernel_rfl) (by kernel_rfl) (by kernel_rfl) (fun _ _ _ h => h) (Or.inl ⟨by kernel_rfl, fun w' hSw => ?_⟩) hS ?_
  · go_simp
    all_goals first | rfl | (simp [*]; done)
  simp only [Act.put, List.setIfInBounds_toArray, List.set_cons_zero, List.set_cons_succ]
  refine wpAnyH_take (i := 5) (oi := ⟨some 16, _, _, _, _, _⟩) (v := (.string us)) rfl (by kernel_rfl) (by kernel_rfl) (by kernel_rfl) (fun _ _ _ h => h) (Or.inl ⟨by kernel_rfl, fun w' hSw => ?_⟩) hS ?_
  · obtain ⟨s1, s2, s3, s4, s5, s6, s7, s8⟩ := hSw
    go_simp
    all_goals first | rfl | (simp [*]; done)
  simp only [Act.put, List.setIfInBounds_toArray, List.set_cons_zero, List.set_cons_succ]
  refine wpAnyH_take (i := 7) (oi := ⟨some 18, _, _, _, _, _⟩) (v := (.pointer (some ⟨B, 3, none⟩))) rfl (by kernel_rfl) (by kernel_rfl) (by kernel_rfl) (fun _ _ _ h => h) (Or.inl ⟨by kernel_rfl, fun w' hSw => ?_⟩) hS ?_
  · go_simp
    all_goals first | rfl | (simp [*]; done)
  simp only [Act.put, List.setIfInBounds_toArray, List.set_cons_zero, List.set_cons_succ]
  refine wpAnyH_take (i := 8) (oi := ⟨some 19, _, _, _, _, _⟩) (v := (.string sp)) rfl (by kernel_rfl) (by kernel_rfl) (by kernel_rfl) (fun _ _ _ h => h) (Or.inl ⟨by kernel_rfl, fun w' hSw => ?_⟩) hS ?_
  · obtain ⟨s1, s2, s3, s4, s5, s6, s7, s8⟩ := hSw
    go_simp
    all_goals first | rfl | (simp [*]; done)
  simp only [Act.put, List.setIfInBounds_toArray, List.set_cons_zero, List.set_cons_succ]
  refine wpAnyH_take (i := 10) (oi := ⟨some 21, _, _, _, _, _⟩) (v := (.pointer (some ⟨B, 4, none⟩))) rfl (by kernel_rfl) (by kernel_rfl) (by kernel_rfl) (fun _ _ _ h => h) (Or.inl ⟨by kernel_rfl, fun w' hSw => ?_⟩) hS ?_
  · go_simp
    all_goals first | rfl | (simp [*]; done)
  simp only [Act.put, List.setIfInBounds_toArray, List.set_cons_zero, List.set_cons_succ]
  refine wpAnyH_take (i := 11) (oi := ⟨some 22, _, _, _, _, _⟩) (v := (.int .i64 (run : Int))) rfl (by kernel_rfl) (by kernel_rfl) (by kernel_rfl) (fun _ _ _ h => h) (Or.inl ⟨by kernel_rfl, fun w' hSw => ?_⟩) hS ?_
  · obtain ⟨s1, s2, s3, s4, s5, s6, s7, s8⟩ := hSw
    go_simp
    all_goals first | rfl | (simp [*]; done)
  simp only [Act.put, List.setIfInBounds_toArray, List.set_cons_zero, List.set_cons_succ]
  refine wpAnyH_take (i := 13) (oi := ⟨some 24, _, _, _, _, _⟩) (v := (.pointer (some ⟨B, 5, none⟩))) rfl (by kernel_rfl) (by kernel_rfl) (by kernel_rfl) (fun _ _ _ h => h) (Or.inl ⟨by kernel_rfl, fun w' hSw => ?_⟩) hS ?_
  · go_simp
    all_goals first | rfl | (simp [*]; done)
  simp only [Act.put, List.setIfInBounds_toArray, List.set_cons_zero, List.set_cons_succ]
  refine wpAnyH_take (i := 14) (oi := ⟨some 25, _, _, _, _, _⟩) (v := (.int .i64 (num : Int))) rfl (by kernel_rfl) (by kernel_rfl) (by kernel_rfl) (fun _ _ _ h => h) (Or.inl ⟨by kernel_rfl, fun w' hSw => ?_⟩) hS ?_
  · obtain ⟨s1, s2, s3, s4, s5, s6, s7, s8⟩ := hSw
    go_simp
    all_goals first | rfl | (simp [*]; done)
  simp only [Act.put, List.setIfInBounds_toArray, List.set_cons_zero, List.set_cons_succ]
  refine wpAnyH_take (i := 16) (oi := ⟨some 27, _, _, _, _, _⟩) (v := (.pointer (some ⟨B, 6, none⟩))) rfl (by kernel_rfl) (by kernel_rfl) (by kernel_rfl) (fun _ _ _ h => h) (Or.inl ⟨by kernel_rfl, fun w' hSw => ?_⟩) hS ?_
  · go_simp
    all_goals first | rfl | (simp [*]; done)
  simp only [Act.put, List.setIfInBounds_toArray, List.set_cons_zero, List.set_cons_succ]
  refine wpAnyH_take (i := 17) (oi := ⟨some 28, _, _, _, _, _⟩) (v := (.string tx)) rfl (by kernel_rfl) (by kernel_rfl) (by kernel_rfl) (fun _ _ _ h => h) (Or.inl ⟨by kernel_rfl, fun w' hSw => ?_⟩) hS ?_
  · obtain ⟨s1, s2, s3, s4, s5, s6, s7, s8⟩ := hSw
    go_simp
    all_goals first | rfl | (simp [*]; done)
  simp only [Act.put, List.setIfInBounds_toArray, List.set_cons_zero, List.set_cons_succ]
  refine wpAnyH_ready (rs := [3]) (by kernel_rfl) (by simp) ?_
  refine AllReadyH.cons (o := ⟨some 14, _, _, _, _, _⟩) rfl (fun K hK => ?_) AllReadyH.nil
  go_simp
  refine (HC1.out _).mono ?_
  rintro e wa ⟨rfl, hwa⟩
  have hwa := hwa.symm
  subst hwa
  go_simp
  refine hK.out _ _ hS (fun hS => ?_)
  clear hK
  refine wpAnyH_ready (rs := [6]) (by kernel_rfl) (by simp) ?_
  refine AllReadyH.cons (o := ⟨some 17, _, _, _, _, _⟩) rfl (fun K hK => ?_) AllReadyH.nil
  go_simp
  refine (HC2.out _).mono ?_
  rintro e wa ⟨rfl, hwa⟩
  have hwa := hwa.symm
  subst hwa
  go_simp
  refine hK.out _ _ hS (fun hS => ?_)
  clear hK
  refine wpAnyH_ready (rs := [9]) (by kernel_rfl) (by simp) ?_
  refine AllReadyH.cons (o := ⟨some 20, _, _, _, _, _⟩) rfl (fun K hK => ?_) AllReadyH.nil
  go_simp
  refine (HC3.out _).mono ?_
  rintro e wa ⟨rfl, hwa⟩
  have hwa := hwa.symm
  subst hwa
  go_simp
  refine hK.out _ _ hS (fun hS => ?_)
  clear hK
  refine wpAnyH_ready (rs := [12]) (by kernel_rfl) (by simp) ?_
  refine AllReadyH.cons (o := ⟨some 23, _, _, _, _, _⟩) rfl (fun K hK => ?_) AllReadyH.nil
  go_simp
  refine (HC4.out _ hS.1).mono ?_
  rintro e wa ⟨rfl, hga⟩
  go_simp
  refine hK.out _ _ ⟨grown_trans hS.1 hga, hga.cell hS.2.1 (by simp), hga.cell hS.2.2.1 (by simp), hga.cell hS.2.2.2.1 (by simp), hga.cell hS.2.2.2.2.1 (by simp), hga.cell hS.2.2.2.2.2.1 (by simp), hga.cell hS.2.2.2.2.2.2.1 (by simp), hga.cell hS.2.2.2.2.2.2.2 (by simp)⟩ (fun hS => ?_)
  clear hK
  refine wpAnyH_ready (rs := [15]) (by kernel_rfl) (by simp) ?_
  refine AllReadyH.cons (o := ⟨some 26, _, _, _, _, _⟩) rfl (fun K hK => ?_) AllReadyH.nil
  go_simp
  refine (HC5.out _ hS.1).mono ?_
  rintro e wa ⟨rfl, hga⟩
  go_simp
  refine hK.out _ _ ⟨grown_trans hS.1 hga, hga.cell hS.2.1 (by simp), hga.cell hS.2.2.1 (by simp), hga.cell hS.2.2.2.1 (by simp), hga.cell hS.2.2.2.2.1 (by simp), hga.cell hS.2.2.2.2.2.1 (by simp), hga.cell hS.2.2.2.2.2.2.1 (by simp), hga.cell hS.2.2.2.2.2.2.2 (by simp)⟩ (fun hS => ?_)
  clear hK
  have HS4 := Lib.hid hS
  refine wpAnyH_ready (rs := [18]) (by kernel_rfl) (by simp) ?_
  refine AllReadyH.cons (o := ⟨some 29, _, _, _, _, _⟩) rfl (fun K hK => ?_) AllReadyH.nil
  go_simp
  refine hK.out _ _ ⟨grown_alloc HS4.out.1 _, (World.grownBy_alloc _ _ none).cell HS4.out.2.1 (by simp), (World.grownBy_alloc _ _ none).cell HS4.out.2.2.1 (by simp), (World.grownBy_alloc _ _ none).cell HS4.out.2.2.2.1 (by simp), (World.grownBy_alloc _ _ none).cell HS4.out.2.2.2.2.1 (by simp), (World.grownBy_alloc _ _ none).cell HS4.out.2.2.2.2.2.1 (by simp), (World.grownBy_alloc _ _ none).cell HS4.out.2.2.2.2.2.2.1 (by simp), (World.grownBy_alloc _ _ none).cell HS4.out.2.2.2.2.2.2.2 (by simp)⟩ (fun hS => ?_)
  clear hK
  refine wpAnyH_ready (rs := [19]) (by kernel_rfl) (by simp) ?_
  refine AllReadyH.cons (o := ⟨some 30, _, _, _, _, _⟩) rfl (fun K hK => ?_) AllReadyH.nil
  go_simp
  refine (HLI.out _ _ (fun j u hu => by rw [Addr.add_mid, Nat.zero_add]; exact (Blk.new _ 9 (strs [T1, T2, T3, D1, D2, tx])).cell hu)).mono ?_
  rintro e wa ⟨rfl, hga⟩
  go_simp
  refine hK.out _ _ ⟨grown_trans hS.1 hga, hga.cell hS.2.1 (by simp), hga.cell hS.2.2.1 (by simp), hga.cell hS.2.2.2.1 (by simp), hga.cell hS.2.2.2.2.1 (by simp), hga.cell hS.2.2.2.2.2.1 (by simp), hga.cell hS.2.2.2.2.2.2.1 (by simp), hga.cell hS.2.2.2.2.2.2.2 (by simp)⟩ (fun hS => ?_)
  clear hK
  refine wpAnyH_take (i := 20) (oi := ⟨some 2, _, _, _, _, _⟩) (v := (.string (writeT 9 tn us sp run num tx))) rfl (by kernel_rfl) (by kernel_rfl) (by kernel_rfl) (fun _ _ _ h => h) (Or.inl ⟨by kernel_rfl, fun w' hSw => ?_⟩) hS ?_
  · go_simp
  simp only [Act.put, List.setIfInBounds_toArray, List.set_cons_zero, List.set_cons_succ]
  refine wpAnyH_done (by kernel_rfl) ?_ _
  go_wp2
  go_ret
  exact ⟨rfl, hS.1⟩

set_option maxRecDepth 100000 in
set_option maxHeartbeats 8000000 in
theorem iwrite_10 (w : World) (hP : Pow w) (tn us sp : ByteArray) (run num : Nat) (tx : ByteArray) (h1 : tn.size ≤ 1048576) (h2 : us.size ≤ 1048576) (h3 : sp.size ≤ 1048576) (h4 : tx.size ≤ 1048576) (hp : ReqP 10 tn us sp run num tx) :
    Calls Tryd.prog 31 #[.agg #[.int .i64 10, .string tn, .string us, .string sp, .int .i64 (run : Int), .int .i64 (num : Int), .string tx]] w fun e w' => e = .returned (.string (writeT 10 tn us sp run num tx)) ∧ w.grownBy w' none := by
  have hrun : run < 4611686018427387904 := by have := hp.2.2.2.2.1.2; omega
  have hnum : num < 4611686018427387904 := by have := hp.2.2.2.2.2.1.2; omega
  obtain ⟨W, hW⟩ : ∃ W, w.alloc (Obj.cells #[Value.int .i64 10, .string tn, .string us, .string sp, .int .i64 (run : Int), .int .i64 (num : Int), .string tx] 31) = W := ⟨_, rfl⟩
  obtain ⟨B, hB⟩ : ∃ B, B = w.heap.size := ⟨_, rfl⟩
  have HB := Lib.hid (show Blk W B 31 [.int .i64 10, .string tn, .string us, .string sp, .int .i64 (run : Int), .int .i64 (num : Int), .string tx] from by rw [← hW, hB]; exact Blk.new w 31 _)
  have HG := Lib.hid (show w.grownBy W none from by rw [← hW]; exact grown_alloc (grown_refl _ _) _)
  have HW := Lib.hid hW
  have HBE := Lib.hid hB
  have HRQ := Lib.hid ((ireq_any W 10 tn us sp run num tx h1 h2 h3 h4).mono (R' := fun e w' => e = .returned (.bool true) ∧ W.grownBy w' none) (fun e w' q => ⟨q.1.is_yes hp, q.2⟩))
  have z1 : (wordT tn).size ≤ 7 := wordT_size tn hp.1
  have z2 : (wordT us).size ≤ 7 := wordT_size us hp.2.1
  have z3 : (wordT sp).size ≤ 7 := wordT_size sp hp.2.2.1
  have z4 : (decS run).size ≤ 21 := decS_size run hrun
  have z5 : (decS num).size ≤ 21 := decS_size num hnum
  have HJW := Lib.hid (joinT_write 10 tn us sp run num tx)
  have HLN := Lib.hid (show (Lib.join ((kindW 10 :: [wordT tn, wordT us, wordT sp, decS run, decS num, tx]).map (·.data.toList)) [32]).length ≤ 140737488355328 from by
    have s7 : (kindW 10).size ≤ 7 := kindW_size 10 (by decide)
    simp [Lib.join]
    omega)
  obtain ⟨T1, hT1⟩ : ∃ K, wordT tn = K := ⟨_, rfl⟩
  obtain ⟨T2, hT2⟩ : ∃ K, wordT us = K := ⟨_, rfl⟩
  obtain ⟨T3, hT3⟩ : ∃ K, wordT sp = K := ⟨_, rfl⟩
  obtain ⟨D1, hD1⟩ : ∃ K, decS run = K := ⟨_, rfl⟩
  obtain ⟨D2, hD2⟩ : ∃ K, decS num = K := ⟨_, rfl⟩
  have HALL := Lib.hid (fun (V : World) (hV : w.grownBy V none ∧ W.grownBy V none) => show w.grownBy V none ∧ V.cell? ⟨B, 0, none⟩ = some (.int .i64 10) ∧ V.cell? ⟨B, 1, none⟩ = some (.string tn) ∧ V.cell? ⟨B, 2, none⟩ = some (.string us) ∧ V.cell? ⟨B, 3, none⟩ = some (.string sp) ∧ V.cell? ⟨B, 4, none⟩ = some (.int .i64 (run : Int)) ∧ V.cell? ⟨B, 5, none⟩ = some (.int .i64 (num : Int)) ∧ V.cell? ⟨B, 6, none⟩ = some (.string tx) from ⟨hV.1, hV.2.cell (HB.out.cell rfl) (by simp), hV.2.cell (HB.out.cell rfl) (by simp), hV.2.cell (HB.out.cell rfl) (by simp), hV.2.cell (HB.out.cell rfl) (by simp), hV.2.cell (HB.out.cell rfl) (by simp), hV.2.cell (HB.out.cell rfl) (by simp), hV.2.cell (HB.out.cell rfl) (by simp)⟩)
  have HPW := Lib.hid (fun (V : World) (hV : w.grownBy V none) => hP.grown hV)
  have HC1 := Lib.hid (fun (V : World) => (iword_any V tn).mono (R' := fun e w' => e = .returned (.string T1) ∧ w' = V) (fun e w' q => ⟨by rw [q.1, hT1], q.2⟩))
  have HC2 := Lib.hid (fun (V : World) => (iword_any V us).mono (R' := fun e w' => e = .returned (.string T2) ∧ w' = V) (fun e w' q => ⟨by rw [q.1, hT2], q.2⟩))
  have HC3 := Lib.hid (fun (V : World) => (iword_any V sp).mono (R' := fun e w' => e = .returned (.string T3) ∧ w' = V) (fun e w' q => ⟨by rw [q.1, hT3], q.2⟩))
  have HC4 := Lib.hid (fun (V : World) (hV : w.grownBy V none) => (itoa_nat run (by omega) V (HPW.out V hV)).mono (R' := fun e w' => e = .returned (.string D1) ∧ V.grownBy w' none) (fun e w' q => ⟨by rw [q.1, hD1], q.2⟩))
  have HC5 := Lib.hid (fun (V : World) (hV : w.grownBy V none) => (itoa_nat num (by omega) V (HPW.out V hV)).mono (R' := fun e w' => e = .returned (.string D2) ∧ V.grownBy w' none) (fun e w' q => ⟨by rw [q.1, hD2], q.2⟩))
  have HKL := Lib.hid (fun (V : World) => ikinds_any V)
  rw [hT1, hT2, hT3, hD1, hD2] at HJW HLN
  have HLI := Lib.hid (fun (V : World) (g : Nat) (hg : At V ⟨g, 0, none⟩ [T1, T2, T3, D1, D2, tx]) => (line_any V (kindW 10) g 0 6 [T1, T2, T3, D1, D2, tx] hg (by simp) HLN.out).mono (R' := fun e w' => e = .returned (.string (writeT 10 tn us sp run num tx)) ∧ V.grownBy w' none) (fun e w' q => ⟨by rw [q.1, HJW.out], q.2⟩))
  clear hp hP hW hB h1 h2 h3 h4 hT1 hT2 hT3 hD1 hD2 z1 z2 z3 z4 z5 hrun hnum HJW HLN
  go_enter Tryd.func31, Tryd.ntmps31
  go_wp2_with fail
  rw [HW.out]
  refine HRQ.out.mono ?_
  rintro e w1 ⟨rfl, hg1⟩
  have HG1 := Lib.hid (grown_trans HG.out hg1)
  have HX1 := Lib.hid hg1
  clear hg1 HRQ
  go_wp2
  rw [← HBE.out]
  refine wp_region_held_drew (S := fun w' => w.grownBy w' none ∧ w'.cell? ⟨B, 0, none⟩ = some (.int .i64 10) ∧ w'.cell? ⟨B, 1, none⟩ = some (.string tn) ∧ w'.cell? ⟨B, 2, none⟩ = some (.string us) ∧ w'.cell? ⟨B, 3, none⟩ = some (.string sp) ∧ w'.cell? ⟨B, 4, none⟩ = some (.int .i64 (run : Int)) ∧ w'.cell? ⟨B, 5, none⟩ = some (.int .i64 (num : Int)) ∧ w'.cell? ⟨B, 6, none⟩ = some (.string tx)) (by kernel_rfl) (HALL.out _ ⟨grown_drew HG1.out, grown_drew HX1.out⟩) (fun hS => ?_)
  refine wpAnyH_take (i := 1) (oi := ⟨some 8, _, _, _, _, _⟩) (v := (.pointer (some ⟨B, 0, none⟩))) rfl (by kernel_rfl) (by kernel_rfl) (by kernel_rfl) (fun _ _ _ h => h) (Or.inl ⟨by kernel_rfl, fun w' hSw => ?_⟩) hS ?_
  · go_simp
    all_goals first | rfl | (simp [*]; done) | (simp [kindsC]; done) | kernel_rfl
  simp only [Act.put, List.setIfInBounds_toArray, List.set_cons_zero, List.set_cons_succ]
  refine wpAnyH_take (i := 2) (oi := ⟨some 9, _, _, _, _, _⟩) (v := (.int .i64 10)) rfl (by kernel_rfl) (by kernel_rfl) (by kernel_rfl) (fun _ _ _ h => h) (Or.inl ⟨by kernel_rfl, fun w' hSw => ?_⟩) hS ?_
  · obtain ⟨s1, s2, s3, s4, s5, s6, s7, s8⟩ := hSw
    go_simp
    all_goals first | rfl | (simp [*]; done) | (simp [kindsC]; done) | kernel_rfl
  simp only [Act.put, List.setIfInBounds_toArray, List.set_cons_zero, List.set_cons_succ]
  refine wpAnyH_ready (rs := [0]) (by kernel_rfl) (by simp) ?_
  refine AllReadyH.cons (o := ⟨some 7, _, _, _, _, _⟩) rfl (fun K hK => ?_) AllReadyH.nil
  go_simp
  refine (HKL.out _).mono ?_
  rintro e wa ⟨rfl, hga⟩
  go_simp
  refine hK.out _ _ ⟨grown_trans hS.1 hga, hga.cell hS.2.1 (by simp), hga.cell hS.2.2.1 (by simp), hga.cell hS.2.2.2.1 (by simp), hga.cell hS.2.2.2.2.1 (by simp), hga.cell hS.2.2.2.2.2.1 (by simp), hga.cell hS.2.2.2.2.2.2.1 (by simp), hga.cell hS.2.2.2.2.2.2.2 (by simp)⟩ (fun hS => ?_)
  clear hK
  refine wpAnyH_take (i := 3) (oi := ⟨some 10, _, _, _, _, _⟩) (v := (.func (.func 60) #[.string ⟨#[115, 116, 101, 112]⟩] #[])) rfl (by kernel_rfl) (by kernel_rfl) (by kernel_rfl) (fun _ _ _ h => h) (Or.inl ⟨by kernel_rfl, fun w' hSw => ?_⟩) hS ?_
  · go_simp
    all_goals first | rfl | (simp [*]; done) | (simp [kindsC]; done) | kernel_rfl
  simp only [Act.put, List.setIfInBounds_toArray, List.set_cons_zero, List.set_cons_succ]
  refine wpAnyH_take (i := 4) (oi := ⟨some 3, _, _, _, _, _⟩) (v := (.func (.func 60) #[.string ⟨#[115, 116, 101, 112]⟩] #[])) rfl (by kernel_rfl) (by kernel_rfl) (by kernel_rfl) (fun _ _ _ h => h) (Or.inl ⟨by kernel_rfl, fun w' hSw => ?_⟩) hS ?_
  · go_simp
    all_goals first | rfl | (simp [*]; done) | (simp [kindsC]; done) | kernel_rfl
  simp only [Act.put, List.setIfInBounds_toArray, List.set_cons_zero, List.set_cons_succ]
  refine wpAnyH_done (by kernel_rfl) ?_ _
  have HS3 := Lib.hid hS
  go_wp2
  refine wp_region_held_drew (S := fun w' => w.grownBy w' none ∧ w'.cell? ⟨B, 0, none⟩ = some (.int .i64 10) ∧ w'.cell? ⟨B, 1, none⟩ = some (.string tn) ∧ w'.cell? ⟨B, 2, none⟩ = some (.string us) ∧ w'.cell? ⟨B, 3, none⟩ = some (.string sp) ∧ w'.cell? ⟨B, 4, none⟩ = some (.int .i64 (run : Int)) ∧ w'.cell? ⟨B, 5, none⟩ = some (.int .i64 (num : Int)) ∧ w'.cell? ⟨B, 6, none⟩ = some (.string tx)) (by kernel_rfl) (⟨grown_drew HS3.out.1, HS3.out.2⟩) (fun hS => ?_)
  refine wpAnyH_take (i := 0) (oi := ⟨some 11, _, _, _, _, _⟩) (v := (.func (.func 60) #[.string ⟨#[115, 116, 101, 112]⟩] #[])) rfl (by kernel_rfl) (by kernel_rfl) (by kernel_rfl) (fun _ _ _ h => h) (Or.inl ⟨by kernel_rfl, fun w' hSw => ?_⟩) hS ?_
  · go_simp
    all_goals first | rfl | (simp [*]; done)
  simp only [Act.put, List.setIfInBounds_toArray, List.set_cons_zero, List.set_cons_succ]
  refine wpAnyH_take (i := 1) (oi := ⟨some 12, _, _, _, _, _⟩) (v := (.pointer (some ⟨B, 1, none⟩))) rfl (by kernel_rfl) (by kernel_rfl) (by kernel_rfl) (fun _ _ _ h => h) (Or.inl ⟨by kernel_rfl, fun w' hSw => ?_⟩) hS ?_
  · go_simp
    all_goals first | rfl | (simp [*]; done)
  simp only [Act.put, List.setIfInBounds_toArray, List.set_cons_zero, List.set_cons_succ]
  refine wpAnyH_take (i := 2) (oi := ⟨some 13, _, _, _, _, _⟩) (v := (.string tn)) rfl (by kernel_rfl) (by kernel_rfl) (by kernel_rfl) (fun _ _ _ h => h) (Or.inl ⟨by kernel_rfl, fun w' hSw => ?_⟩) hS ?_
  · obtain ⟨s1, s2, s3, s4, s5, s6, s7, s8⟩ := hSw
    go_simp
    all_goals first | rfl | (simp [*]; done)
  simp only [Act.put, List.setIfInBounds_toArray, List.set_cons_zero, List.set_cons_succ]
  refine wpAnyH_take (i := 4) (oi := ⟨some 15, _, _, _, _, _⟩) (v := (.pointer (some ⟨B, 2, none⟩))) rfl (by kernel_rfl) (by kernel_rfl) (by kernel_rfl) (fun _ _ _ h => h) (Or.inl ⟨by kernel_rfl, fun w' hSw => ?_⟩) hS ?_
  · go_simp
    all_goals first | rfl | (simp [*]; done)
  simp only [Act.put, List.setIfInBounds_toArray, List.set_cons_zero, List.set_cons_succ]
  refine wpAnyH_take (i := 5) (oi := ⟨some 16, _, _, _, _, _⟩) (v := (.string us)) rfl (by kernel_rfl) (by kernel_rfl) (by kernel_rfl) (fun _ _ _ h => h) (Or.inl ⟨by kernel_rfl, fun w' hSw => ?_⟩) hS ?_
  · obtain ⟨s1, s2, s3, s4, s5, s6, s7, s8⟩ := hSw
    go_simp
    all_goals first | rfl | (simp [*]; done)
  simp only [Act.put, List.setIfInBounds_toArray, List.set_cons_zero, List.set_cons_succ]
  refine wpAnyH_take (i := 7) (oi := ⟨some 18, _, _, _, _, _⟩) (v := (.pointer (some ⟨B, 3, none⟩))) rfl (by kernel_rfl) (by kernel_rfl) (by kernel_rfl) (fun _ _ _ h => h) (Or.inl ⟨by kernel_rfl, fun w' hSw => ?_⟩) hS ?_
  · go_simp
    all_goals first | rfl | (simp [*]; done)
  simp only [Act.put, List.setIfInBounds_toArray, List.set_cons_zero, List.set_cons_succ]
  refine wpAnyH_take (i := 8) (oi := ⟨some 19, _, _, _, _, _⟩) (v := (.string sp)) rfl (by kernel_rfl) (by kernel_rfl) (by kernel_rfl) (fun _ _ _ h => h) (Or.inl ⟨by kernel_rfl, fun w' hSw => ?_⟩) hS ?_
  · obtain ⟨s1, s2, s3, s4, s5, s6, s7, s8⟩ := hSw
    go_simp
    all_goals first | rfl | (simp [*]; done)
  simp only [Act.put, List.setIfInBounds_toArray, List.set_cons_zero, List.set_cons_succ]
  refine wpAnyH_take (i := 10) (oi := ⟨some 21, _, _, _, _, _⟩) (v := (.pointer (some ⟨B, 4, none⟩))) rfl (by kernel_rfl) (by kernel_rfl) (by kernel_rfl) (fun _ _ _ h => h) (Or.inl ⟨by kernel_rfl, fun w' hSw => ?_⟩) hS ?_
  · go_simp
    all_goals first | rfl | (simp [*]; done)
  simp only [Act.put, List.setIfInBounds_toArray, List.set_cons_zero, List.set_cons_succ]
  refine wpAnyH_take (i := 11) (oi := ⟨some 22, _, _, _, _, _⟩) (v := (.int .i64 (run : Int))) rfl (by kernel_rfl) (by kernel_rfl) (by kernel_rfl) (fun _ _ _ h => h) (Or.inl ⟨by kernel_rfl, fun w' hSw => ?_⟩) hS ?_
  · obtain ⟨s1, s2, s3, s4, s5, s6, s7, s8⟩ := hSw
    go_simp
    all_goals first | rfl | (simp [*]; done)
  simp only [Act.put, List.setIfInBounds_toArray, List.set_cons_zero, List.set_cons_succ]
  refine wpAnyH_take (i := 13) (oi := ⟨some 24, _, _, _, _, _⟩) (v := (.pointer (some ⟨B, 5, none⟩))) rfl (by kernel_rfl) (by kernel_rfl) (by kernel_rfl) (fun _ _ _ h => h) (Or.inl ⟨by kernel_rfl, fun w' hSw => ?_⟩) hS ?_
  · go_simp
    all_goals first | rfl | (simp [*]; done)
  simp only [Act.put, List.setIfInBounds_toArray, List.set_cons_zero, List.set_cons_succ]
  refine wpAnyH_take (i := 14) (oi := ⟨some 25, _, _, _, _, _⟩) (v := (.int .i64 (num : Int))) rfl (by kernel_rfl) (by kernel_rfl) (by kernel_rfl) (fun _ _ _ h => h) (Or.inl ⟨by kernel_rfl, fun w' hSw => ?_⟩) hS ?_
  · obtain ⟨s1, s2, s3, s4, s5, s6, s7, s8⟩ := hSw
    go_simp
    all_goals first | rfl | (simp [*]; done)
  simp only [Act.put, List.setIfInBounds_toArray, List.set_cons_zero, List.set_cons_succ]
  refine wpAnyH_take (i := 16) (oi := ⟨some 27, _, _, _, _, _⟩) (v := (.pointer (some ⟨B, 6, none⟩))) rfl (by kernel_rfl) (by kernel_rfl) (by kernel_rfl) (fun _ _ _ h => h) (Or.inl ⟨by kernel_rfl, fun w' hSw => ?_⟩) hS ?_
  · go_simp
    all_goals first | rfl | (simp [*]; done)
  simp only [Act.put, List.setIfInBounds_toArray, List.set_cons_zero, List.set_cons_succ]
  refine wpAnyH_take (i := 17) (oi := ⟨some 28, _, _, _, _, _⟩) (v := (.string tx)) rfl (by kernel_rfl) (by kernel_rfl) (by kernel_rfl) (fun _ _ _ h => h) (Or.inl ⟨by kernel_rfl, fun w' hSw => ?_⟩) hS ?_
  · obtain ⟨s1, s2, s3, s4, s5, s6, s7, s8⟩ := hSw
    go_simp
    all_goals first | rfl | (simp [*]; done)
  simp only [Act.put, List.setIfInBounds_toArray, List.set_cons_zero, List.set_cons_succ]
  refine wpAnyH_ready (rs := [3]) (by kernel_rfl) (by simp) ?_
  refine AllReadyH.cons (o := ⟨some 14, _, _, _, _, _⟩) rfl (fun K hK => ?_) AllReadyH.nil
  go_simp
  refine (HC1.out _).mono ?_
  rintro e wa ⟨rfl, hwa⟩
  have hwa := hwa.symm
  subst hwa
  go_simp
  refine hK.out _ _ hS (fun hS => ?_)
  clear hK
  refine wpAnyH_ready (rs := [6]) (by kernel_rfl) (by simp) ?_
  refine AllReadyH.cons (o := ⟨some 17, _, _, _, _, _⟩) rfl (fun K hK => ?_) AllReadyH.nil
  go_simp
  refine (HC2.out _).mono ?_
  rintro e wa ⟨rfl, hwa⟩
  have hwa := hwa.symm
  subst hwa
  go_simp
  refine hK.out _ _ hS (fun hS => ?_)
  clear hK
  refine wpAnyH_ready (rs := [9]) (by kernel_rfl) (by simp) ?_
  refine AllReadyH.cons (o := ⟨some 20, _, _, _, _, _⟩) rfl (fun K hK => ?_) AllReadyH.nil
  go_simp
  refine (HC3.out _).mono ?_
  rintro e wa ⟨rfl, hwa⟩
  have hwa := hwa.symm
  subst hwa
  go_simp
  refine hK.out _ _ hS (fun hS => ?_)
  clear hK
  refine wpAnyH_ready (rs := [12]) (by kernel_rfl) (by simp) ?_
  refine AllReadyH.cons (o := ⟨some 23, _, _, _, _, _⟩) rfl (fun K hK => ?_) AllReadyH.nil
  go_simp
  refine (HC4.out _ hS.1).mono ?_
  rintro e wa ⟨rfl, hga⟩
  go_simp
  refine hK.out _ _ ⟨grown_trans hS.1 hga, hga.cell hS.2.1 (by simp), hga.cell hS.2.2.1 (by simp), hga.cell hS.2.2.2.1 (by simp), hga.cell hS.2.2.2.2.1 (by simp), hga.cell hS.2.2.2.2.2.1 (by simp), hga.cell hS.2.2.2.2.2.2.1 (by simp), hga.cell hS.2.2.2.2.2.2.2 (by simp)⟩ (fun hS => ?_)
  clear hK
  refine wpAnyH_ready (rs := [15]) (by kernel_rfl) (by simp) ?_
  refine AllReadyH.cons (o := ⟨some 26, _, _, _, _, _⟩) rfl (fun K hK => ?_) AllReadyH.nil
  go_simp
  refine (HC5.out _ hS.1).mono ?_
  rintro e wa ⟨rfl, hga⟩
  go_simp
  refine hK.out _ _ ⟨grown_trans hS.1 hga, hga.cell hS.2.1 (by simp), hga.cell hS.2.2.1 (by simp), hga.cell hS.2.2.2.1 (by simp), hga.cell hS.2.2.2.2.1 (by simp), hga.cell hS.2.2.2.2.2.1 (by simp), hga.cell hS.2.2.2.2.2.2.1 (by simp), hga.cell hS.2.2.2.2.2.2.2 (by simp)⟩ (fun hS => ?_)
  clear hK
  have HS4 := Lib.hid hS
  refine wpAnyH_ready (rs := [18]) (by kernel_rfl) (by simp) ?_
  refine AllReadyH.cons (o := ⟨some 29, _, _, _, _, _⟩) rfl (fun K hK => ?_) AllReadyH.nil
  go_simp
  refine hK.out _ _ ⟨grown_alloc HS4.out.1 _, (World.grownBy_alloc _ _ none).cell HS4.out.2.1 (by simp), (World.grownBy_alloc _ _ none).cell HS4.out.2.2.1 (by simp), (World.grownBy_alloc _ _ none).cell HS4.out.2.2.2.1 (by simp), (World.grownBy_alloc _ _ none).cell HS4.out.2.2.2.2.1 (by simp), (World.grownBy_alloc _ _ none).cell HS4.out.2.2.2.2.2.1 (by simp), (World.grownBy_alloc _ _ none).cell HS4.out.2.2.2.2.2.2.1 (by simp), (World.grownBy_alloc _ _ none).cell HS4.out.2.2.2.2.2.2.2 (by simp)⟩ (fun hS => ?_)
  clear hK
  refine wpAnyH_ready (rs := [19]) (by kernel_rfl) (by simp) ?_
  refine AllReadyH.cons (o := ⟨some 30, _, _, _, _, _⟩) rfl (fun K hK => ?_) AllReadyH.nil
  go_simp
  refine (HLI.out _ _ (fun j u hu => by rw [Addr.add_mid, Nat.zero_add]; exact (Blk.new _ 9 (strs [T1, T2, T3, D1, D2, tx])).cell hu)).mono ?_
  rintro e wa ⟨rfl, hga⟩
  go_simp
  refine hK.out _ _ ⟨grown_trans hS.1 hga, hga.cell hS.2.1 (by simp), hga.cell hS.2.2.1 (by simp), hga.cell hS.2.2.2.1 (by simp), hga.cell hS.2.2.2.2.1 (by simp), hga.cell hS.2.2.2.2.2.1 (by simp), hga.cell hS.2.2.2.2.2.2.1 (by simp), hga.cell hS.2.2.2.2.2.2.2 (by simp)⟩ (fun hS => ?_)
  clear hK
  refine wpAnyH_take (i := 20) (oi := ⟨some 2, _, _, _, _, _⟩) (v := (.string (writeT 10 tn us sp run num tx))) rfl (by kernel_rfl) (by kernel_rfl) (by kernel_rfl) (fun _ _ _ h => h) (Or.inl ⟨by kernel_rfl, fun w' hSw => ?_⟩) hS ?_
  · go_simp
  simp only [Act.put, List.setIfInBounds_toArray, List.set_cons_zero, List.set_cons_succ]
  refine wpAnyH_done (by kernel_rfl) ?_ _
  go_wp2
  go_ret
  exact ⟨rfl, hS.1⟩
end Go.Proofs.YtecekbhkombnnaaDoor
