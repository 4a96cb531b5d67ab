/- A request, written by the document. -/
import Derived.Test.YtecekbhkombnnaaDoorW1
namespace Go.Proofs.YtecekbhkombnnaaDoor
open Go.RowKit

/-- what holds of all worlds that meet S', and more, holds of those that meet S -/
theorem wpAnyH_more {P : Program} {md : Region.Mode} {ops : Array Oper} {Q : Exit → Act → World → Prop} {S S' : World → Prop} (hSS : ∀ w, S' w → S w) : ∀ {fuel : Nat} {listed : Array Bool} {a : Act} {w : World}, wpAnyH P md ops Q S' fuel listed a w → wpAnyH P md ops Q S fuel listed a w
  | 0, _, _, _, h => h
  | _ + 1, _, _, _, h => ⟨h.1, fun i hi => wpOp_mono (fun _ _ q => ⟨hSS _ q.1, wpAnyH_more hSS q.2⟩) (h.2 i hi)⟩

/-- a request as it is written -/
def writeT (m : Nat) (tn us sp : ByteArray) (run num : Nat) (tx : ByteArray) : ByteArray :=
  (((((((((((kindW m ++ ⟨#[32]⟩) ++ wordT tn) ++ ⟨#[32]⟩) ++ wordT us) ++ ⟨#[32]⟩) ++ wordT sp) ++ ⟨#[32]⟩) ++ decS run) ++ ⟨#[32]⟩) ++ decS num) ++ ⟨#[32]⟩) ++ tx

set_option maxRecDepth 100000 in
set_option maxHeartbeats 8000000 in
theorem swrite_yes (w : World) (m : Nat) (tn us sp : ByteArray) (run num : Nat) (tx : ByteArray) (h1 : tn.size ≤ 1048576) (h2 : us.size ≤ 1048576) (h3 : sp.size ≤ 1048576) (h4 : tx.size ≤ 1048576) (hp : ReqP m tn us sp run num tx) :
    Calls Tryd.prog 26 #[.agg #[.int .i64 (m : Int), .string tn, .string us, .string sp, .int .i64 (run : Int), .int .i64 (num : Int), .string tx]] w fun e w' => e = .returned (.string (writeT m tn us sp run num tx)) ∧ w.grownBy w' none := by
  have hm : m < 11 := by have := hp.2.2.2.1.2; omega
  have hrun : run < 4611686018427387904 := by have := hp.2.2.2.2.1.2; omega
  have hnum : num < 4611686018427387904 := by have := hp.2.2.2.2.2.1.2; omega
  obtain ⟨W, hW⟩ : ∃ W, w.alloc (Obj.cells #[Value.int .i64 (m : Int), .string tn, .string us, .string sp, .int .i64 (run : Int), .int .i64 (num : Int), .string tx] 31) = W := ⟨_, rfl⟩
  obtain ⟨B, hB⟩ : ∃ B, B = w.heap.size := ⟨_, rfl⟩
  have HB := Lib.hid (show Blk W B 31 [.int .i64 (m : Int), .string tn, .string us, .string sp, .int .i64 (run : Int), .int .i64 (num : Int), .string tx] from by rw [← hW, hB]; exact Blk.new w 31 _)
  have HG := Lib.hid (show w.grownBy W none from by rw [← hW]; exact grown_alloc (grown_refl _ _) _)
  have HW := Lib.hid hW
  have HBE := Lib.hid hB
  have HRQ := Lib.hid ((req_any W m tn us sp run num tx h1 h2 h3 h4).mono (R' := fun e w' => e = .returned (.bool true) ∧ W.grownBy w' none) (fun e w' q => ⟨q.1.is_yes hp, q.2⟩))
  obtain ⟨K0, hK0⟩ : ∃ K, kindW m = K := ⟨_, rfl⟩
  obtain ⟨T1, hT1⟩ : ∃ K, wordT tn = K := ⟨_, rfl⟩
  obtain ⟨T2, hT2⟩ : ∃ K, wordT us = K := ⟨_, rfl⟩
  obtain ⟨T3, hT3⟩ : ∃ K, wordT sp = K := ⟨_, rfl⟩
  obtain ⟨D1, hD1⟩ : ∃ K, decS run = K := ⟨_, rfl⟩
  obtain ⟨D2, hD2⟩ : ∃ K, decS num = K := ⟨_, rfl⟩
  have z0 : K0.size ≤ 7 := by rw [← hK0]; exact kindW_size m hm
  have z1 : T1.size ≤ 7 := by rw [← hT1]; exact wordT_size tn hp.1
  have z2 : T2.size ≤ 7 := by rw [← hT2]; exact wordT_size us hp.2.1
  have z3 : T3.size ≤ 7 := by rw [← hT3]; exact wordT_size sp hp.2.2.1
  have z4 : D1.size ≤ 21 := by rw [← hD1]; exact decS_size run hrun
  have z5 : D2.size ≤ 21 := by rw [← hD2]; exact decS_size num hnum
  have HWT := Lib.hid (show writeT m tn us sp run num tx = (((((((((((K0 ++ ⟨#[32]⟩) ++ T1) ++ ⟨#[32]⟩) ++ T2) ++ ⟨#[32]⟩) ++ T3) ++ ⟨#[32]⟩) ++ D1) ++ ⟨#[32]⟩) ++ D2) ++ ⟨#[32]⟩) ++ tx from by unfold writeT; rw [hK0, hT1, hT2, hT3, hD1, hD2])
  obtain ⟨C1, hC1⟩ : ∃ C, K0 ++ ⟨#[32]⟩ = C := ⟨_, rfl⟩
  have y1 : C1.size ≤ 8 := by rw [← hC1, ByteArray.size_append]; show K0.size + 1 ≤ _; omega
  have l1 : ¬ 9223372036854775807 < K0.size + 1 := by omega
  obtain ⟨C2, hC2⟩ : ∃ C, C1 ++ T1 = C := ⟨_, rfl⟩
  have y2 : C2.size ≤ 15 := by rw [← hC2, ByteArray.size_append]; omega
  have l2 : ¬ 9223372036854775807 < C1.size + T1.size := by omega
  obtain ⟨C3, hC3⟩ : ∃ C, C2 ++ ⟨#[32]⟩ = C := ⟨_, rfl⟩
  have y3 : C3.size ≤ 16 := by rw [← hC3, ByteArray.size_append]; show C2.size + 1 ≤ _; omega
  have l3 : ¬ 9223372036854775807 < C2.size + 1 := by omega
  obtain ⟨C4, hC4⟩ : ∃ C, C3 ++ T2 = C := ⟨_, rfl⟩
  have y4 : C4.size ≤ 23 := by rw [← hC4, ByteArray.size_append]; omega
  have l4 : ¬ 9223372036854775807 < C3.size + T2.size := by omega
  obtain ⟨C5, hC5⟩ : ∃ C, C4 ++ ⟨#[32]⟩ = C := ⟨_, rfl⟩
  have y5 : C5.size ≤ 24 := by rw [← hC5, ByteArray.size_append]; show C4.size + 1 ≤ _; omega
  have l5 : ¬ 9223372036854775807 < C4.size + 1 := by omega
  obtain ⟨C6, hC6⟩ : ∃ C, C5 ++ T3 = C := ⟨_, rfl⟩
  have y6 : C6.size ≤ 31 := by rw [← hC6, ByteArray.size_append]; omega
  have l6 : ¬ 9223372036854775807 < C5.size + T3.size := by omega
  obtain ⟨C7, hC7⟩ : ∃ C, C6 ++ ⟨#[32]⟩ = C := ⟨_, rfl⟩
  have y7 : C7.size ≤ 32 := by rw [← hC7, ByteArray.size_append]; show C6.size + 1 ≤ _; omega
  have l7 : ¬ 9223372036854775807 < C6.size + 1 := by omega
  obtain ⟨C8, hC8⟩ : ∃ C, C7 ++ D1 = C := ⟨_, rfl⟩
  have y8 : C8.size ≤ 53 := by rw [← hC8, ByteArray.size_append]; omega
  have l8 : ¬ 9223372036854775807 < C7.size + D1.size := by omega
  obtain ⟨C9, hC9⟩ : ∃ C, C8 ++ ⟨#[32]⟩ = C := ⟨_, rfl⟩
  have y9 : C9.size ≤ 54 := by rw [← hC9, ByteArray.size_append]; show C8.size + 1 ≤ _; omega
  have l9 : ¬ 9223372036854775807 < C8.size + 1 := by omega
  obtain ⟨C10, hC10⟩ : ∃ C, C9 ++ D2 = C := ⟨_, rfl⟩
  have y10 : C10.size ≤ 75 := by rw [← hC10, ByteArray.size_append]; omega
  have l10 : ¬ 9223372036854775807 < C9.size + D2.size := by omega
  obtain ⟨C11, hC11⟩ : ∃ C, C10 ++ ⟨#[32]⟩ = C := ⟨_, rfl⟩
  have y11 : C11.size ≤ 76 := by rw [← hC11, ByteArray.size_append]; show C10.size + 1 ≤ _; omega
  have l11 : ¬ 9223372036854775807 < C10.size + 1 := by omega
  obtain ⟨C12, hC12⟩ : ∃ C, C11 ++ tx = C := ⟨_, rfl⟩
  have y12 : C12.size ≤ 1048652 := by rw [← hC12, ByteArray.size_append]; omega
  have l12 : ¬ 9223372036854775807 < C11.size + tx.size := by omega
  have HWE := Lib.hid (show writeT m tn us sp run num tx = C12 from by rw [HWT.out, hC1, hC2, hC3, hC4, hC5, hC6, hC7, hC8, hC9, hC10, hC11, hC12])
  have HALL := Lib.hid (fun (V : World) (hV : w.grownBy V none ∧ W.grownBy V none) => show w.grownBy V none ∧ V.cell? ⟨B, 0, none⟩ = some (.int .i64 (m : Int)) ∧ V.cell? ⟨B, 1, none⟩ = some (.string tn) ∧ V.cell? ⟨B, 2, none⟩ = some (.string us) ∧ V.cell? ⟨B, 3, none⟩ = some (.string sp) ∧ V.cell? ⟨B, 4, none⟩ = some (.int .i64 (run : Int)) ∧ V.cell? ⟨B, 5, none⟩ = some (.int .i64 (num : Int)) ∧ V.cell? ⟨B, 6, none⟩ = some (.string tx) from ⟨hV.1, hV.2.cell (HB.out.cell rfl) (by simp), hV.2.cell (HB.out.cell rfl) (by simp), hV.2.cell (HB.out.cell rfl) (by simp), hV.2.cell (HB.out.cell rfl) (by simp), hV.2.cell (HB.out.cell rfl) (by simp), hV.2.cell (HB.out.cell rfl) (by simp), hV.2.cell (HB.out.cell rfl) (by simp)⟩)
  have HK := Lib.hid (fun (V : World) => show (V.alloc kindsObj).cell? ⟨V.heap.size, m, none⟩ = some (.string K0) from by rw [← hK0]; exact kinds_cell V m hm)
  have HC1 := Lib.hid (fun (V : World) => (word_any V tn).mono (R' := fun e w' => e = .returned (.string T1) ∧ w' = V) (fun e w' q => ⟨by rw [q.1, hT1], q.2⟩))
  have HC2 := Lib.hid (fun (V : World) => (word_any V us).mono (R' := fun e w' => e = .returned (.string T2) ∧ w' = V) (fun e w' q => ⟨by rw [q.1, hT2], q.2⟩))
  have HC3 := Lib.hid (fun (V : World) => (word_any V sp).mono (R' := fun e w' => e = .returned (.string T3) ∧ w' = V) (fun e w' q => ⟨by rw [q.1, hT3], q.2⟩))
  have HC4 := Lib.hid (fun (V : World) => (dec_walk run V hrun).mono (R' := fun e w' => e = .returned (.string D1) ∧ V.grownBy w' none) (fun e w' q => ⟨by rw [q.1, hD1], q.2⟩))
  have HC5 := Lib.hid (fun (V : World) => (dec_walk num V hnum).mono (R' := fun e w' => e = .returned (.string D2) ∧ V.grownBy w' none) (fun e w' q => ⟨by rw [q.1, hD2], q.2⟩))
  have HKL := Lib.hid (fun (V : World) => kinds_call V)
  have hmI : (m : Int) < 11 := by omega
  clear hp hW hB h1 h2 h3 h4 hT1 hT2 hT3 hD1 hD2 hK0 z0 z1 z2 z3 z4 z5 HWT hrun hnum y1 y2 y3 y4 y5 y6 y7 y8 y9 y10 y11 y12
  go_enter Tryd.func26, Tryd.ntmps26
  go_wp2_with fail
  rw [HW.out]
  refine HRQ.out.mono ?_
  rintro e w1 ⟨rfl, hg1⟩
  have HG1 := Lib.hid (grown_trans HG.out hg1)
  have HX1 := Lib.hid hg1
  clear hg1 HRQ
  go_wp2
  rw [← HBE.out]
  refine wp_region_held_drew (S := fun w' => w.grownBy w' none ∧ w'.cell? ⟨B, 0, none⟩ = some (.int .i64 (m : Int)) ∧ w'.cell? ⟨B, 1, none⟩ = some (.string tn) ∧ w'.cell? ⟨B, 2, none⟩ = some (.string us) ∧ w'.cell? ⟨B, 3, none⟩ = some (.string sp) ∧ w'.cell? ⟨B, 4, none⟩ = some (.int .i64 (run : Int)) ∧ w'.cell? ⟨B, 5, none⟩ = some (.int .i64 (num : Int)) ∧ w'.cell? ⟨B, 6, none⟩ = some (.string tx)) (by kernel_rfl) (HALL.out _ ⟨grown_drew HG1.out, grown_drew HX1.out⟩) (fun hS => ?_)
  refine wpAnyH_take (i := 1) (oi := ⟨some 7, _, _, _, _, _⟩) (v := (.pointer (some ⟨B, 0, none⟩))) rfl (by kernel_rfl) (by kernel_rfl) (by kernel_rfl) (fun _ _ _ h => h) (Or.inl ⟨by kernel_rfl, fun w' hSw => ?_⟩) hS ?_
  · go_simp
    all_goals first | rfl | simp [*]
  simp only [Act.put, List.setIfInBounds_toArray, List.set_cons_zero, List.set_cons_succ]
  refine wpAnyH_take (i := 2) (oi := ⟨some 8, _, _, _, _, _⟩) (v := (.int .i64 (m : Int))) rfl (by kernel_rfl) (by kernel_rfl) (by kernel_rfl) (fun _ _ _ h => h) (Or.inl ⟨by kernel_rfl, fun w' hSw => ?_⟩) hS ?_
  · obtain ⟨s1, s2, s3, s4, s5, s6, s7, s8⟩ := hSw
    go_simp
    all_goals first | rfl | simp [*]
  simp only [Act.put, List.setIfInBounds_toArray, List.set_cons_zero, List.set_cons_succ]
  refine wpAnyH_take (i := 6) (oi := ⟨some 12, _, _, _, _, _⟩) (v := (.pointer (some ⟨B, 1, none⟩))) rfl (by kernel_rfl) (by kernel_rfl) (by kernel_rfl) (fun _ _ _ h => h) (Or.inl ⟨by kernel_rfl, fun w' hSw => ?_⟩) hS ?_
  · go_simp
    all_goals first | rfl | simp [*]
  simp only [Act.put, List.setIfInBounds_toArray, List.set_cons_zero, List.set_cons_succ]
  refine wpAnyH_take (i := 7) (oi := ⟨some 13, _, _, _, _, _⟩) (v := (.string tn)) rfl (by kernel_rfl) (by kernel_rfl) (by kernel_rfl) (fun _ _ _ h => h) (Or.inl ⟨by kernel_rfl, fun w' hSw => ?_⟩) hS ?_
  · obtain ⟨s1, s2, s3, s4, s5, s6, s7, s8⟩ := hSw
    go_simp
    all_goals first | rfl | simp [*]
  simp only [Act.put, List.setIfInBounds_toArray, List.set_cons_zero, List.set_cons_succ]
  refine wpAnyH_take (i := 11) (oi := ⟨some 17, _, _, _, _, _⟩) (v := (.pointer (some ⟨B, 2, none⟩))) rfl (by kernel_rfl) (by kernel_rfl) (by kernel_rfl) (fun _ _ _ h => h) (Or.inl ⟨by kernel_rfl, fun w' hSw => ?_⟩) hS ?_
  · go_simp
    all_goals first | rfl | simp [*]
  simp only [Act.put, List.setIfInBounds_toArray, List.set_cons_zero, List.set_cons_succ]
  refine wpAnyH_take (i := 12) (oi := ⟨some 18, _, _, _, _, _⟩) (v := (.string us)) rfl (by kernel_rfl) (by kernel_rfl) (by kernel_rfl) (fun _ _ _ h => h) (Or.inl ⟨by kernel_rfl, fun w' hSw => ?_⟩) hS ?_
  · obtain ⟨s1, s2, s3, s4, s5, s6, s7, s8⟩ := hSw
    go_simp
    all_goals first | rfl | simp [*]
  simp only [Act.put, List.setIfInBounds_toArray, List.set_cons_zero, List.set_cons_succ]
  refine wpAnyH_take (i := 16) (oi := ⟨some 22, _, _, _, _, _⟩) (v := (.pointer (some ⟨B, 3, none⟩))) rfl (by kernel_rfl) (by kernel_rfl) (by kernel_rfl) (fun _ _ _ h => h) (Or.inl ⟨by kernel_rfl, fun w' hSw => ?_⟩) hS ?_
  · go_simp
    all_goals first | rfl | simp [*]
  simp only [Act.put, List.setIfInBounds_toArray, List.set_cons_zero, List.set_cons_succ]
  refine wpAnyH_take (i := 17) (oi := ⟨some 23, _, _, _, _, _⟩) (v := (.string sp)) rfl (by kernel_rfl) (by kernel_rfl) (by kernel_rfl) (fun _ _ _ h => h) (Or.inl ⟨by kernel_rfl, fun w' hSw => ?_⟩) hS ?_
  · obtain ⟨s1, s2, s3, s4, s5, s6, s7, s8⟩ := hSw
    go_simp
    all_goals first | rfl | simp [*]
  simp only [Act.put, List.setIfInBounds_toArray, List.set_cons_zero, List.set_cons_succ]
  refine wpAnyH_take (i := 21) (oi := ⟨some 27, _, _, _, _, _⟩) (v := (.pointer (some ⟨B, 4, none⟩))) rfl (by kernel_rfl) (by kernel_rfl) (by kernel_rfl) (fun _ _ _ h => h) (Or.inl ⟨by kernel_rfl, fun w' hSw => ?_⟩) hS ?_
  · go_simp
    all_goals first | rfl | simp [*]
  simp only [Act.put, List.setIfInBounds_toArray, List.set_cons_zero, List.set_cons_succ]
  refine wpAnyH_take (i := 22) (oi := ⟨some 28, _, _, _, _, _⟩) (v := (.int .i64 (run : Int))) rfl (by kernel_rfl) (by kernel_rfl) (by kernel_rfl) (fun _ _ _ h => h) (Or.inl ⟨by kernel_rfl, fun w' hSw => ?_⟩) hS ?_
  · obtain ⟨s1, s2, s3, s4, s5, s6, s7, s8⟩ := hSw
    go_simp
    all_goals first | rfl | simp [*]
  simp only [Act.put, List.setIfInBounds_toArray, List.set_cons_zero, List.set_cons_succ]
  refine wpAnyH_take (i := 26) (oi := ⟨some 32, _, _, _, _, _⟩) (v := (.pointer (some ⟨B, 5, none⟩))) rfl (by kernel_rfl) (by kernel_rfl) (by kernel_rfl) (fun _ _ _ h => h) (Or.inl ⟨by kernel_rfl, fun w' hSw => ?_⟩) hS ?_
  · go_simp
    all_goals first | rfl | simp [*]
  simp only [Act.put, List.setIfInBounds_toArray, List.set_cons_zero, List.set_cons_succ]
  refine wpAnyH_take (i := 27) (oi := ⟨some 33, _, _, _, _, _⟩) (v := (.int .i64 (num : Int))) rfl (by kernel_rfl) (by kernel_rfl) (by kernel_rfl) (fun _ _ _ h => h) (Or.inl ⟨by kernel_rfl, fun w' hSw => ?_⟩) hS ?_
  · obtain ⟨s1, s2, s3, s4, s5, s6, s7, s8⟩ := hSw
    go_simp
    all_goals first | rfl | simp [*]
  simp only [Act.put, List.setIfInBounds_toArray, List.set_cons_zero, List.set_cons_succ]
  refine wpAnyH_take (i := 31) (oi := ⟨some 37, _, _, _, _, _⟩) (v := (.pointer (some ⟨B, 6, none⟩))) rfl (by kernel_rfl) (by kernel_rfl) (by kernel_rfl) (fun _ _ _ h => h) (Or.inl ⟨by kernel_rfl, fun w' hSw => ?_⟩) hS ?_
  · go_simp
    all_goals first | rfl | simp [*]
  simp only [Act.put, List.setIfInBounds_toArray, List.set_cons_zero, List.set_cons_succ]
  refine wpAnyH_take (i := 32) (oi := ⟨some 38, _, _, _, _, _⟩) (v := (.string tx)) rfl (by kernel_rfl) (by kernel_rfl) (by kernel_rfl) (fun _ _ _ h => h) (Or.inl ⟨by kernel_rfl, fun w' hSw => ?_⟩) hS ?_
  · obtain ⟨s1, s2, s3, s4, s5, s6, s7, s8⟩ := hSw
    go_simp
    all_goals first | rfl | simp [*]
  simp only [Act.put, List.setIfInBounds_toArray, List.set_cons_zero, List.set_cons_succ]
  refine wpAnyH_ready (rs := [0]) (by kernel_rfl) (by simp) ?_
  refine AllReadyH.cons (o := ⟨some 6, _, _, _, _, _⟩) rfl (fun K hK => ?_) AllReadyH.nil
  go_simp
  refine (HKL.out _).mono ?_
  rintro e wa ⟨rfl, hwa⟩
  have hka := HK.out w1.drew
  obtain ⟨N, hN⟩ : ∃ N, N = w1.drew.heap.size := ⟨_, rfl⟩
  rw [← hN] at hka ⊢
  rw [← hwa] at hka
  have hga := (show w1.drew.grownBy wa none from by rw [hwa]; exact World.grownBy_alloc _ _ none)
  clear hwa hN
  go_simp
  refine hK.out _ _ (HALL.out _ ⟨grown_trans (grown_drew HG1.out) hga, grown_trans (grown_drew HX1.out) hga⟩) (fun hS => ?_)
  clear hK
  refine wpAnyH_more (S' := fun w' => (w.grownBy w' none ∧ w'.cell? ⟨B, 0, none⟩ = some (.int .i64 (m : Int)) ∧ w'.cell? ⟨B, 1, none⟩ = some (.string tn) ∧ w'.cell? ⟨B, 2, none⟩ = some (.string us) ∧ w'.cell? ⟨B, 3, none⟩ = some (.string sp) ∧ w'.cell? ⟨B, 4, none⟩ = some (.int .i64 (run : Int)) ∧ w'.cell? ⟨B, 5, none⟩ = some (.int .i64 (num : Int)) ∧ w'.cell? ⟨B, 6, none⟩ = some (.string tx)) ∧ w'.cell? ⟨N, m, none⟩ = some (.string K0)) (fun _ h => h.1) ?_
  have hS := And.intro hS hka
  refine wpAnyH_take (i := 3) (oi := ⟨some 9, _, _, _, _, _⟩) (v := (.pointer (some ⟨N, m, none⟩))) rfl (by kernel_rfl) (by kernel_rfl) (by kernel_rfl) (fun _ _ _ h => h) (Or.inl ⟨by kernel_rfl, fun w' hSw => ?_⟩) hS ?_
  · go_simp
    all_goals first | rfl | simp [*]
  simp only [Act.put, List.setIfInBounds_toArray, List.set_cons_zero, List.set_cons_succ]
  refine wpAnyH_take (i := 4) (oi := ⟨some 10, _, _, _, _, _⟩) (v := (.string K0)) rfl (by kernel_rfl) (by kernel_rfl) (by kernel_rfl) (fun _ _ _ h => h) (Or.inl ⟨by kernel_rfl, fun w' hSw => ?_⟩) hS ?_
  · obtain ⟨⟨s1, s2, s3, s4, s5, s6, s7, s8⟩, m1⟩ := hSw
    go_simp
    all_goals first | rfl | simp [*]
  simp only [Act.put, List.setIfInBounds_toArray, List.set_cons_zero, List.set_cons_succ]
  refine wpAnyH_take (i := 5) (oi := ⟨some 11, _, _, _, _, _⟩) (v := (.string C1)) rfl (by kernel_rfl) (by kernel_rfl) (by kernel_rfl) (fun _ _ _ h => h) (Or.inl ⟨by kernel_rfl, fun w' hSw => ?_⟩) hS ?_
  · go_simp
    all_goals first | rfl | simp [*]
  simp only [Act.put, List.setIfInBounds_toArray, List.set_cons_zero, List.set_cons_succ]
  refine wpAnyH_ready (rs := [8]) (by kernel_rfl) (by simp) ?_
  refine AllReadyH.cons (o := ⟨some 14, _, _, _, _, _⟩) rfl (fun K hK => ?_) AllReadyH.nil
  go_simp
  refine (HC1.out _).mono ?_
  rintro e wa ⟨rfl, hwa⟩
  have hwa := hwa.symm
  subst hwa
  go_simp
  refine hK.out _ _ hS (fun hS => ?_)
  clear hK
  refine wpAnyH_take (i := 9) (oi := ⟨some 15, _, _, _, _, _⟩) (v := (.string C2)) rfl (by kernel_rfl) (by kernel_rfl) (by kernel_rfl) (fun _ _ _ h => h) (Or.inl ⟨by kernel_rfl, fun w' hSw => ?_⟩) hS ?_
  · go_simp
    all_goals first | rfl | simp [*]
  simp only [Act.put, List.setIfInBounds_toArray, List.set_cons_zero, List.set_cons_succ]
  refine wpAnyH_take (i := 10) (oi := ⟨some 16, _, _, _, _, _⟩) (v := (.string C3)) rfl (by kernel_rfl) (by kernel_rfl) (by kernel_rfl) (fun _ _ _ h => h) (Or.inl ⟨by kernel_rfl, fun w' hSw => ?_⟩) hS ?_
  · go_simp
    all_goals first | rfl | simp [*]
  simp only [Act.put, List.setIfInBounds_toArray, List.set_cons_zero, List.set_cons_succ]
  refine wpAnyH_ready (rs := [13]) (by kernel_rfl) (by simp) ?_
  refine AllReadyH.cons (o := ⟨some 19, _, _, _, _, _⟩) rfl (fun K hK => ?_) AllReadyH.nil
  go_simp
  refine (HC2.out _).mono ?_
  rintro e wa ⟨rfl, hwa⟩
  have hwa := hwa.symm
  subst hwa
  go_simp
  refine hK.out _ _ hS (fun hS => ?_)
  clear hK
  refine wpAnyH_take (i := 14) (oi := ⟨some 20, _, _, _, _, _⟩) (v := (.string C4)) rfl (by kernel_rfl) (by kernel_rfl) (by kernel_rfl) (fun _ _ _ h => h) (Or.inl ⟨by kernel_rfl, fun w' hSw => ?_⟩) hS ?_
  · go_simp
    all_goals first | rfl | simp [*]
  simp only [Act.put, List.setIfInBounds_toArray, List.set_cons_zero, List.set_cons_succ]
  refine wpAnyH_take (i := 15) (oi := ⟨some 21, _, _, _, _, _⟩) (v := (.string C5)) rfl (by kernel_rfl) (by kernel_rfl) (by kernel_rfl) (fun _ _ _ h => h) (Or.inl ⟨by kernel_rfl, fun w' hSw => ?_⟩) hS ?_
  · go_simp
    all_goals first | rfl | simp [*]
  simp only [Act.put, List.setIfInBounds_toArray, List.set_cons_zero, List.set_cons_succ]
  refine wpAnyH_ready (rs := [18]) (by kernel_rfl) (by simp) ?_
  refine AllReadyH.cons (o := ⟨some 24, _, _, _, _, _⟩) rfl (fun K hK => ?_) AllReadyH.nil
  go_simp
  refine (HC3.out _).mono ?_
  rintro e wa ⟨rfl, hwa⟩
  have hwa := hwa.symm
  subst hwa
  go_simp
  refine hK.out _ _ hS (fun hS => ?_)
  clear hK
  refine wpAnyH_take (i := 19) (oi := ⟨some 25, _, _, _, _, _⟩) (v := (.string C6)) rfl (by kernel_rfl) (by kernel_rfl) (by kernel_rfl) (fun _ _ _ h => h) (Or.inl ⟨by kernel_rfl, fun w' hSw => ?_⟩) hS ?_
  · go_simp
    all_goals first | rfl | simp [*]
  simp only [Act.put, List.setIfInBounds_toArray, List.set_cons_zero, List.set_cons_succ]
  refine wpAnyH_take (i := 20) (oi := ⟨some 26, _, _, _, _, _⟩) (v := (.string C7)) rfl (by kernel_rfl) (by kernel_rfl) (by kernel_rfl) (fun _ _ _ h => h) (Or.inl ⟨by kernel_rfl, fun w' hSw => ?_⟩) hS ?_
  · go_simp
    all_goals first | rfl | simp [*]
  simp only [Act.put, List.setIfInBounds_toArray, List.set_cons_zero, List.set_cons_succ]
  refine wpAnyH_ready (rs := [23]) (by kernel_rfl) (by simp) ?_
  refine AllReadyH.cons (o := ⟨some 29, _, _, _, _, _⟩) rfl (fun K hK => ?_) AllReadyH.nil
  go_simp
  refine (HC4.out _).mono ?_
  rintro e wa ⟨rfl, hga⟩
  go_simp
  refine hK.out _ _ ⟨⟨grown_trans hS.1.1 hga, hga.cell hS.1.2.1 (by simp), hga.cell hS.1.2.2.1 (by simp), hga.cell hS.1.2.2.2.1 (by simp), hga.cell hS.1.2.2.2.2.1 (by simp), hga.cell hS.1.2.2.2.2.2.1 (by simp), hga.cell hS.1.2.2.2.2.2.2.1 (by simp), hga.cell hS.1.2.2.2.2.2.2.2 (by simp)⟩, hga.cell hS.2 (by simp)⟩ (fun hS => ?_)
  clear hK
  refine wpAnyH_take (i := 24) (oi := ⟨some 30, _, _, _, _, _⟩) (v := (.string C8)) rfl (by kernel_rfl) (by kernel_rfl) (by kernel_rfl) (fun _ _ _ h => h) (Or.inl ⟨by kernel_rfl, fun w' hSw => ?_⟩) hS ?_
  · go_simp
    all_goals first | rfl | simp [*]
  simp only [Act.put, List.setIfInBounds_toArray, List.set_cons_zero, List.set_cons_succ]
  refine wpAnyH_take (i := 25) (oi := ⟨some 31, _, _, _, _, _⟩) (v := (.string C9)) rfl (by kernel_rfl) (by kernel_rfl) (by kernel_rfl) (fun _ _ _ h => h) (Or.inl ⟨by kernel_rfl, fun w' hSw => ?_⟩) hS ?_
  · go_simp
    all_goals first | rfl | simp [*]
  simp only [Act.put, List.setIfInBounds_toArray, List.set_cons_zero, List.set_cons_succ]
  refine wpAnyH_ready (rs := [28]) (by kernel_rfl) (by simp) ?_
  refine AllReadyH.cons (o := ⟨some 34, _, _, _, _, _⟩) rfl (fun K hK => ?_) AllReadyH.nil
  go_simp
  refine (HC5.out _).mono ?_
  rintro e wa ⟨rfl, hga⟩
  go_simp
  refine hK.out _ _ ⟨⟨grown_trans hS.1.1 hga, hga.cell hS.1.2.1 (by simp), hga.cell hS.1.2.2.1 (by simp), hga.cell hS.1.2.2.2.1 (by simp), hga.cell hS.1.2.2.2.2.1 (by simp), hga.cell hS.1.2.2.2.2.2.1 (by simp), hga.cell hS.1.2.2.2.2.2.2.1 (by simp), hga.cell hS.1.2.2.2.2.2.2.2 (by simp)⟩, hga.cell hS.2 (by simp)⟩ (fun hS => ?_)
  clear hK
  refine wpAnyH_take (i := 29) (oi := ⟨some 35, _, _, _, _, _⟩) (v := (.string C10)) rfl (by kernel_rfl) (by kernel_rfl) (by kernel_rfl) (fun _ _ _ h => h) (Or.inl ⟨by kernel_rfl, fun w' hSw => ?_⟩) hS ?_
  · go_simp
    all_goals first | rfl | simp [*]
  simp only [Act.put, List.setIfInBounds_toArray, List.set_cons_zero, List.set_cons_succ]
  refine wpAnyH_take (i := 30) (oi := ⟨some 36, _, _, _, _, _⟩) (v := (.string C11)) rfl (by kernel_rfl) (by kernel_rfl) (by kernel_rfl) (fun _ _ _ h => h) (Or.inl ⟨by kernel_rfl, fun w' hSw => ?_⟩) hS ?_
  · go_simp
    all_goals first | rfl | simp [*]
  simp only [Act.put, List.setIfInBounds_toArray, List.set_cons_zero, List.set_cons_succ]
  refine wpAnyH_take (i := 33) (oi := ⟨some 39, _, _, _, _, _⟩) (v := (.string C12)) rfl (by kernel_rfl) (by kernel_rfl) (by kernel_rfl) (fun _ _ _ h => h) (Or.inl ⟨by kernel_rfl, fun w' hSw => ?_⟩) hS ?_
  · go_simp
    all_goals first | rfl | simp [*]
  simp only [Act.put, List.setIfInBounds_toArray, List.set_cons_zero, List.set_cons_succ]
  refine wpAnyH_take (i := 34) (oi := ⟨some 2, _, _, _, _, _⟩) (v := (.string C12)) rfl (by kernel_rfl) (by kernel_rfl) (by kernel_rfl) (fun _ _ _ h => h) (Or.inl ⟨by kernel_rfl, fun w' hSw => ?_⟩) hS ?_
  · go_simp
    all_goals first | rfl | simp [*]
  simp only [Act.put, List.setIfInBounds_toArray, List.set_cons_zero, List.set_cons_succ]
  refine wpAnyH_done (by kernel_rfl) ?_ _
  go_wp2
  go_ret
  exact ⟨by rw [HWE.out]; rfl, hS.1.1⟩

set_option maxRecDepth 100000 in
set_option maxHeartbeats 4000000 in
theorem swrite_no (w : World) (kd : Int) (tn us sp : ByteArray) (run num : Int) (tx : ByteArray) (h1 : tn.size ≤ 1048576) (h2 : us.size ≤ 1048576) (h3 : sp.size ≤ 1048576) (h4 : tx.size ≤ 1048576) (hp : ¬ ReqP kd tn us sp run num tx) :
    Calls Tryd.prog 26 #[.agg #[.int .i64 kd, .string tn, .string us, .string sp, .int .i64 run, .int .i64 num, .string tx]] w fun e w' => e = .returned (.string ⟨#[]⟩) ∧ w.grownBy w' none := by
  have HG := Lib.hid (show w.grownBy (w.alloc (Obj.cells #[Value.int .i64 kd, .string tn, .string us, .string sp, .int .i64 run, .int .i64 num, .string tx] 31)) none from grown_alloc (grown_refl _ _) _)
  have HRQ := Lib.hid (fun V => (req_any V kd tn us sp run num tx h1 h2 h3 h4).mono (R' := fun e w' => e = .returned (.bool false) ∧ V.grownBy w' none) (fun e w' q => ⟨q.1.is_no hp, q.2⟩))
  clear hp
  go_enter Tryd.func26, Tryd.ntmps26
  go_wp2_with fail
  refine (HRQ.out _).mono ?_
  rintro e w1 ⟨rfl, hg1⟩
  have HG1 := Lib.hid (grown_trans HG.out hg1)
  clear hg1
  go_wp2
  go_ret
  exact ⟨rfl, HG1.out⟩
end Go.Proofs.YtecekbhkombnnaaDoor
