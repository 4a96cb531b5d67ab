/- A credential read, by the document. -/
import Derived.Test.YtecekbhkombnnaaGreatDoorGA
import Derived.Test.YtecekbhkombnnaaGreatDoorGH
import Derived.Test.YtecekbhkombnnaaGreatDoorNS
namespace Go.Proofs.YtecekbhkombnnaaGreatDoor
open Go.RowKit

set_option maxRecDepth 100000 in
set_option maxHeartbeats 32000000 in
theorem sread_yes (w : World) (text a b : ByteArray) (run frm unt : Nat) (M : List ByteArray) (s : ByteArray) (hs : text.size ≤ 1048576) (hr : RdP text a b run frm unt M s) :
    Calls Tryz.prog 18 #[.string text] w fun e w' => ∃ (an : Option Addr) (cn : Nat), e = .returned (.tuple #[.agg #[.string a, .string b, .int .i64 (run : Int), .int .i64 (frm : Int), .int .i64 (unt : Int), .slice an M.length cn, .string s], .bool true]) ∧ Row w' w.heap.size (.slice an M.length cn) (strs M) ∧ w.grownBy w' none := by
  obtain ⟨i9, hi9, hz0, hz1, hz2⟩ := info_parts infoStr0
  obtain ⟨W, hW⟩ : ∃ W, w.alloc (Obj.cells #[Value.string ⟨#[]⟩, .string ⟨#[]⟩, .int .i64 0, .int .i64 0, .int .i64 0, .slice none 0 0, .string ⟨#[]⟩] 26) = W := ⟨_, rfl⟩
  obtain ⟨C, hC⟩ : ∃ x, w.heap.size = x := ⟨_, rfl⟩
  have HG := Lib.hid (show w.grownBy W none from by rw [← hW]; exact grown_alloc (grown_refl _ _) _)
  have HCC := Lib.hid (show Blk W C 26 (capC ⟨#[]⟩ ⟨#[]⟩ 0 0 0 (.slice none 0 0) ⟨#[]⟩) from by rw [← hW, ← hC]; exact Blk.new w 26 (capC ⟨#[]⟩ ⟨#[]⟩ 0 0 0 (.slice none 0 0) ⟨#[]⟩))
  have HWC := Lib.hid (show w.heap.size ≤ C from by omega)
  have HW := Lib.hid hW
  have HCE := Lib.hid hC
  have HRD := Lib.hid hr
  have HSZ := Lib.hid hs
  clear hW hC hr
  go_enter Tryz.func18, Tryz.ntmps18
  go_wp2_with fail
  rw [HW.out, HCE.out]
  refine (scut_any W text 59 59 rfl hs).mono ?_
  rintro e w1 ⟨⟨L, a1, c1, rfl, hr1, hne, -, hfree, hj⟩, hg1⟩
  cases L with
  | nil => exact absurd rfl hne
  | cons p P =>
  obtain ⟨g1, rfl, hg1b, hc1, hk1⟩ := hr1.at
  have HCC1 := Lib.hid (HCC.out.kept hg1 (by simp))
  have HG1 := Lib.hid (grown_trans HG.out hg1)
  have HK1 := Lib.hid hk1
  have HFR := Lib.hid hfree
  have HJ := Lib.hid hj
  have HG1L := Lib.hid (show g1 < w1.heap.size from (hr1.lt g1 rfl).2)
  have hps := pieces_size 59 p P
  rw [hj] at hps
  have hpz : p.size ≤ 1048576 := by omega
  have HPL := Lib.hid (show P.length ≤ 1048576 from by omega)
  have HPZ := Lib.hid (show ∀ q ∈ P, q.size ≤ 1048576 from fun q hq => by have := hps.2.2 q hq; omega)
  have m0 : w1.cell? ⟨g1, 0, none⟩ = some (.string p) := hk1 0 (by simp)
  have hC1 := Lib.hid hc1
  rw [List.length_cons]
  clear hr1 hg1 hne hfree hj hps hk1 hc1 HCC HG
  go_wp2_with fail
  refine (scut_any w1 p 32 32 rfl hpz).mono ?_
  rintro e w2 ⟨⟨K, a2, c2, rfl, hr2, hkne, -, hkf, hkj⟩, hg2⟩
  have HCC2 := Lib.hid (HCC1.out.kept hg2 (by simp))
  have HG2 := Lib.hid (grown_trans HG1.out hg2)
  have HKP := Lib.hid (fun j (hj : j < (p :: P).length) => hg2.cell (HK1.out j hj) (by simp))
  have HG1L2 := Lib.hid (show g1 < w2.heap.size from by have := hg2.size; have := HG1L.out; omega)
  clear hg2 HCC1 HG1 HK1 HG1L m0
  obtain ⟨rfl, rfl⟩ := read_yes HRD.out HFR.out HJ.out hkne hkf hkj
  have hkj' := hkj
  clear hkne hkf
  have hcp := HRD.out.1
  obtain ⟨g2, rfl, -, hc2, hk2⟩ := hr2.at
  have hsz : ∀ q ∈ [a, b, (decS run), (decS frm), (decS unt), s], q.size ≤ 1048576 := fun q hq => by have := joinB_len 32 _ q hq; rw [hkj] at this; simp only [List.length_cons, List.length_nil] at this; omega
  have q0 : w2.cell? ⟨g2, 0, none⟩ = some (.string a) := hk2 0 (by simp)
  have z0 : a.size ≤ 1048576 := hsz _ (by simp)
  have q1 : w2.cell? ⟨g2, 1, none⟩ = some (.string b) := hk2 1 (by simp)
  have z1 : b.size ≤ 1048576 := hsz _ (by simp)
  have q2 : w2.cell? ⟨g2, 2, none⟩ = some (.string (decS run)) := hk2 2 (by simp)
  have z2 : (decS run).size ≤ 1048576 := hsz _ (by simp)
  have q3 : w2.cell? ⟨g2, 3, none⟩ = some (.string (decS frm)) := hk2 3 (by simp)
  have z3 : (decS frm).size ≤ 1048576 := hsz _ (by simp)
  have q4 : w2.cell? ⟨g2, 4, none⟩ = some (.string (decS unt)) := hk2 4 (by simp)
  have z4 : (decS unt).size ≤ 1048576 := hsz _ (by simp)
  have q5 : w2.cell? ⟨g2, 5, none⟩ = some (.string s) := hk2 5 (by simp)
  have z5 : s.size ≤ 1048576 := hsz _ (by simp)
  have HK0 := Lib.hid q0
  have HK1 := Lib.hid q1
  have HK5 := Lib.hid q5
  have hC2 := Lib.hid hc2
  clear hk2 hc2 hsz hkj hr2 q0 q1 q5
  go_wp2_with fail
  refine (snum_any w2 (decS run) z2).mono ?_
  rintro e wx ⟨⟨n2, b2, rfl, hn2⟩, hwx⟩
  have hwx := hwx.symm
  subst hwx
  obtain ⟨rfl, rfl⟩ := hn2.of_dec (m := (run : Int)) (by omega) (by have := hcp.1.2.2.2; omega) (decI_nat run).symm
  clear hn2
  go_wp2_with fail
  refine (snum_any w2 (decS frm) z3).mono ?_
  rintro e wx ⟨⟨n3, b3, rfl, hn3⟩, hwx⟩
  have hwx := hwx.symm
  subst hwx
  obtain ⟨rfl, rfl⟩ := hn3.of_dec (m := (frm : Int)) (by omega) (by have := hcp.2.1.1.2; omega) (decI_nat frm).symm
  clear hn3
  go_wp2_with fail
  refine (snum_any w2 (decS unt) z4).mono ?_
  rintro e wx ⟨⟨n4, b4, rfl, hn4⟩, hwx⟩
  have hwx := hwx.symm
  subst hwx
  obtain ⟨rfl, rfl⟩ := hn4.of_dec (m := (unt : Int)) (by omega) (by have := hcp.2.1.2.2; omega) (decI_nat unt).symm
  clear hn4
  obtain ⟨N0, hN0⟩ : ∃ x, w2.heap.size = x := ⟨_, rfl⟩
  have HN0 := Lib.hid hN0
  obtain ⟨o1, hsl, hlp⟩ := cut_at w2 g1 c1 p P HKP.out hC1.out
  have HLP := Lib.hid hlp
  clear hN0 hlp q2 q3 q4
  have HCP := Lib.hid hcp
  clear hcp
  go_wp2
  refine wp_region_held_drew (S := fun V => w2.grownBy V none) (by kernel_rfl) (grown_drew (grown_refl _ _)) (fun hS => ?_)
  generalize w2.drew = V0 at hS ⊢
  try dsimp only at hS
  refine wpAnyH_take (i := 0) (oi := ⟨some 44, _, _, _, _, _⟩) (v := (.slice (some ⟨g2, 0, none⟩) 6 c2)) rfl (by kernel_rfl) (by kernel_rfl) (by kernel_rfl) (fun _ _ _ h => h) (Or.inl ⟨by kernel_rfl, fun w' hSw => ?_⟩) hS ?_
  · go_simp
    all_goals first | rfl | (simp [*]; done)
  simp only [Act.put, List.setIfInBounds_toArray, List.set_cons_zero, List.set_cons_succ]
  refine wpAnyH_take (i := 1) (oi := ⟨some 45, _, _, _, _, _⟩) (v := (.pointer (some ⟨g2, 0, none⟩))) rfl (by kernel_rfl) (by kernel_rfl) (by kernel_rfl) (fun _ _ _ h => h) (Or.inl ⟨by kernel_rfl, fun w' hSw => ?_⟩) hS ?_
  · go_simp
    all_goals first | rfl | (simp [*]; done)
  simp only [Act.put, List.setIfInBounds_toArray, List.set_cons_zero, List.set_cons_succ]
  refine wpAnyH_take (i := 2) (oi := ⟨some 46, _, _, _, _, _⟩) (v := (.string a)) rfl (by kernel_rfl) (by kernel_rfl) (by kernel_rfl) (fun _ _ _ h => h) (Or.inl ⟨by kernel_rfl, fun w' hSw => ?_⟩) hS ?_
  · have kf := World.grownBy.cell hSw HK0.out (by simp)
    go_simp
    all_goals first | rfl | (simp [*]; done)
  simp only [Act.put, List.setIfInBounds_toArray, List.set_cons_zero, List.set_cons_succ]
  refine wpAnyH_take (i := 3) (oi := ⟨some 47, _, _, _, _, _⟩) (v := (.slice (some ⟨g2, 0, none⟩) 6 c2)) rfl (by kernel_rfl) (by kernel_rfl) (by kernel_rfl) (fun _ _ _ h => h) (Or.inl ⟨by kernel_rfl, fun w' hSw => ?_⟩) hS ?_
  · go_simp
    all_goals first | rfl | (simp [*]; done)
  simp only [Act.put, List.setIfInBounds_toArray, List.set_cons_zero, List.set_cons_succ]
  refine wpAnyH_take (i := 4) (oi := ⟨some 48, _, _, _, _, _⟩) (v := (.pointer (some ⟨g2, 1, none⟩))) rfl (by kernel_rfl) (by kernel_rfl) (by kernel_rfl) (fun _ _ _ h => h) (Or.inl ⟨by kernel_rfl, fun w' hSw => ?_⟩) hS ?_
  · go_simp
    all_goals first | rfl | (simp [*]; done)
  simp only [Act.put, List.setIfInBounds_toArray, List.set_cons_zero, List.set_cons_succ]
  refine wpAnyH_take (i := 5) (oi := ⟨some 49, _, _, _, _, _⟩) (v := (.string b)) rfl (by kernel_rfl) (by kernel_rfl) (by kernel_rfl) (fun _ _ _ h => h) (Or.inl ⟨by kernel_rfl, fun w' hSw => ?_⟩) hS ?_
  · have kf := World.grownBy.cell hSw HK1.out (by simp)
    go_simp
    all_goals first | rfl | (simp [*]; done)
  simp only [Act.put, List.setIfInBounds_toArray, List.set_cons_zero, List.set_cons_succ]
  refine wpAnyH_take (i := 6) (oi := ⟨some 50, _, _, _, _, _⟩) (v := (.int .i64 (run : Int))) rfl (by kernel_rfl) (by kernel_rfl) (by kernel_rfl) (fun _ _ _ h => h) (Or.inl ⟨by kernel_rfl, fun w' hSw => ?_⟩) hS ?_
  · go_simp
    all_goals first | rfl | (simp [*]; done)
  simp only [Act.put, List.setIfInBounds_toArray, List.set_cons_zero, List.set_cons_succ]
  refine wpAnyH_take (i := 7) (oi := ⟨some 51, _, _, _, _, _⟩) (v := (.int .i64 (frm : Int))) rfl (by kernel_rfl) (by kernel_rfl) (by kernel_rfl) (fun _ _ _ h => h) (Or.inl ⟨by kernel_rfl, fun w' hSw => ?_⟩) hS ?_
  · go_simp
    all_goals first | rfl | (simp [*]; done)
  simp only [Act.put, List.setIfInBounds_toArray, List.set_cons_zero, List.set_cons_succ]
  refine wpAnyH_take (i := 8) (oi := ⟨some 52, _, _, _, _, _⟩) (v := (.int .i64 (unt : Int))) rfl (by kernel_rfl) (by kernel_rfl) (by kernel_rfl) (fun _ _ _ h => h) (Or.inl ⟨by kernel_rfl, fun w' hSw => ?_⟩) hS ?_
  · go_simp
    all_goals first | rfl | (simp [*]; done)
  simp only [Act.put, List.setIfInBounds_toArray, List.set_cons_zero, List.set_cons_succ]
  refine wpAnyH_take (i := 9) (oi := ⟨some 53, _, _, _, _, _⟩) (v := (.slice (some ⟨g2, 0, none⟩) 6 c2)) rfl (by kernel_rfl) (by kernel_rfl) (by kernel_rfl) (fun _ _ _ h => h) (Or.inl ⟨by kernel_rfl, fun w' hSw => ?_⟩) hS ?_
  · go_simp
    all_goals first | rfl | (simp [*]; done)
  simp only [Act.put, List.setIfInBounds_toArray, List.set_cons_zero, List.set_cons_succ]
  refine wpAnyH_take (i := 10) (oi := ⟨some 54, _, _, _, _, _⟩) (v := (.pointer (some ⟨g2, 5, none⟩))) rfl (by kernel_rfl) (by kernel_rfl) (by kernel_rfl) (fun _ _ _ h => h) (Or.inl ⟨by kernel_rfl, fun w' hSw => ?_⟩) hS ?_
  · go_simp
    all_goals first | rfl | (simp [*]; done)
  simp only [Act.put, List.setIfInBounds_toArray, List.set_cons_zero, List.set_cons_succ]
  refine wpAnyH_take (i := 11) (oi := ⟨some 55, _, _, _, _, _⟩) (v := (.string s)) rfl (by kernel_rfl) (by kernel_rfl) (by kernel_rfl) (fun _ _ _ h => h) (Or.inl ⟨by kernel_rfl, fun w' hSw => ?_⟩) hS ?_
  · have kf := World.grownBy.cell hSw HK5.out (by simp)
    go_simp
    all_goals first | rfl | (simp [*]; done)
  simp only [Act.put, List.setIfInBounds_toArray, List.set_cons_zero, List.set_cons_succ]
  refine wpAnyH_take (i := 13) (oi := ⟨some 57, _, _, _, _, _⟩) (v := (.slice (some ⟨g1, 0, none⟩) (P.length + 1) c1)) rfl (by kernel_rfl) (by kernel_rfl) (by kernel_rfl) (fun _ _ _ h => h) (Or.inl ⟨by kernel_rfl, fun w' hSw => ?_⟩) hS ?_
  · go_simp
    all_goals first | rfl | (simp [*]; done)
  simp only [Act.put, List.setIfInBounds_toArray, List.set_cons_zero, List.set_cons_succ]
  refine wpAnyH_take (i := 14) (oi := ⟨some 58, _, _, _, _, _⟩) (v := (.slice (some ⟨g1, o1, none⟩) P.length (c1 - 1))) rfl (by kernel_rfl) (by kernel_rfl) (by kernel_rfl) (fun _ _ _ h => h) (Or.inl ⟨by kernel_rfl, fun w' hSw => ?_⟩) hS ?_
  · go_simp
    all_goals first | rfl | (simp [*]; done) | (rcases hsl with ⟨h1, h2⟩ | ⟨h1, h2⟩ <;> simp [h1, h2] <;> (intro h5; omega))
  simp only [Act.put, List.setIfInBounds_toArray, List.set_cons_zero, List.set_cons_succ]
  refine wpAnyH_ready (rs := [12, 17]) (by kernel_rfl) (by simp) ?_
  refine AllReadyH.cons (o := ⟨some 56, _, _, _, _, _⟩) rfl (fun K hK => ?_) (AllReadyH.cons (o := ⟨some 12, _, _, _, _, _⟩) rfl (fun K hK => ?_) (AllReadyH.nil))
  · skip
    go_simp
    obtain ⟨VB, hVB⟩ : ∃ x, V0.alloc (Obj.cells #[] 9) = x := ⟨_, rfl⟩
    obtain ⟨GB, hGB⟩ : ∃ x, V0.heap.size = x := ⟨_, rfl⟩
    have hga := (show V0.grownBy VB none from by rw [← hVB]; exact World.grownBy_alloc _ _ none)
    have HRA := Lib.hid (show Row VB N0 (.slice (some ⟨GB, 0, none⟩) 0 0) (strs []) from by rw [← hVB, ← hGB]; exact Row.empty0 (by have := hS.size; have := HN0.out; omega) (by simp))
    rw [hVB, hGB]
    clear hVB hGB
    have hS := grown_trans hS hga
    refine hK.out _ _ hS (fun hS => ?_)
    clear hK hga
    refine wpAnyH_ready (rs := [15, 17]) (by kernel_rfl) (by simp) ?_
    refine AllReadyH.cons (o := ⟨some 59, _, _, _, _, _⟩) rfl (fun K hK => ?_) (AllReadyH.cons (o := ⟨some 12, _, _, _, _, _⟩) rfl (fun K hK => ?_) (AllReadyH.nil))
    · skip
      refine step_append_row2 rfl _ _ 22 rfl 9 i9 (.string ⟨#[]⟩) 16 Tryz.underlying22 hi9 hz0 hz1 hz2 rfl N0 (.slice (some ⟨GB, 0, none⟩) 0 0) (strs []) rfl HRA.out ⟨g1, o1, none⟩ P.length (c1 - 1) (strs P) rfl (strs_len _) (fun j u hu => World.grownBy.cell hS (HLP.out j u hu) (by simp)) (strs_one _) (by rw [strs_len]; have := HPL.out; simp; unfold maxLen; omega) (by rw [strs_len]; have := HPL.out; simp; omega) (by have := hS.size; have := HN0.out; omega) ?_
      intro v9 VC HR2 HG2 HO2
      have HRA2 := Lib.hid (show Row VC N0 v9 (strs P) from HR2.out)
      have hS2 := grown_own hS HG2.out (fun q hq => by have := (HRA.out.lt q hq).1; have := HN0.out; omega)
      clear HR2 HG2 HO2 HRA
      have HRA := HRA2
      obtain ⟨an, cn, hv9, -⟩ := (show Row VC N0 v9 (strs P) from HRA.out).lies
      subst hv9
      clear HRA2
      have hS := hS2
      clear hS2
      refine hK.out _ _ hS (fun hS => ?_)
      clear hK
      refine wpAnyH_take (i := 16) (oi := ⟨some 60, _, _, _, _, _⟩) (v := (.agg (capC a b (run : Int) (frm : Int) (unt : Int) (.slice an P.length cn) s).toArray)) rfl (by kernel_rfl) (by kernel_rfl) (by kernel_rfl) (fun _ _ _ h => h) (Or.inl ⟨by kernel_rfl, fun w' hSw => ?_⟩) hS ?_
      · go_simp
        all_goals first | rfl | (simp [*]; done)
      simp only [Act.put, List.setIfInBounds_toArray, List.set_cons_zero, List.set_cons_succ]
      refine wpAnyH_ready (rs := [17]) (by kernel_rfl) (by simp) ?_
      refine AllReadyH.cons (o := ⟨some 12, _, _, _, _, _⟩) rfl (fun K hK => ?_) (AllReadyH.nil)
      · skip
        go_simp
        obtain ⟨BQ, hBQ⟩ : ∃ x, VC.heap.size = x := ⟨_, rfl⟩
        obtain ⟨WA, hWA⟩ : ∃ x, VC.alloc (Obj.cells #[Value.string ⟨#[]⟩, .string ⟨#[]⟩, .int .i64 0, .int .i64 0, .int .i64 0, .slice none 0 0, .string ⟨#[]⟩] 26) = x := ⟨_, rfl⟩
        have HLZ := Lib.hid (show Blk WA BQ 26 (capC ⟨#[]⟩ ⟨#[]⟩ 0 0 0 (.slice none 0 0) ⟨#[]⟩) from by rw [← hWA, ← hBQ]; exact Blk.new VC 26 (capC ⟨#[]⟩ ⟨#[]⟩ 0 0 0 (.slice none 0 0) ⟨#[]⟩))
        have HBL := Lib.hid (show w2.heap.size ≤ BQ from by rw [← hBQ]; exact hS.size)
        have hga := (show VC.grownBy WA none from by rw [← hWA]; exact World.grownBy_alloc _ _ none)
        have HNQ := Lib.hid (show ∀ q, (Value.slice an P.length cn).ownBlock = some q → q ≠ BQ from fun q hq e => by have h1 := (HRA.out.lt q hq).2; omega)
        have HRA := Lib.hid (HRA.out.kept hga (by simp))
        rw [hWA, hBQ]
        clear hWA hBQ
        have hS := grown_trans hS hga
        refine hK.out _ _ hS (fun hS => ?_)
        clear hK hga
        refine wpAnyH_ready (rs := [18]) (by kernel_rfl) (by simp) ?_
        refine AllReadyH.cons (o := ⟨none, _, _, _, _, _⟩) rfl (fun K hK => ?_) AllReadyH.nil
        refine step_store_blk2 (by kernel_rfl) 26 _ _ rfl BQ (capC a b (run : Int) (frm : Int) (unt : Int) (.slice an P.length cn) s) (capC ⟨#[]⟩ ⟨#[]⟩ 0 0 0 (.slice none 0 0) ⟨#[]⟩) 26 HLZ.out infoCap rfl (capC_one _ _ _ _ _ _ _ rfl) rfl rfl ?_
        intro V3 hb3 hg3
        have HB9 := hb3
        have HR9 := Lib.hid (HRA.out.kept hg3.out (fun q hq e => HNQ.out q hq (Option.some.inj e)))
        have HS9 := Lib.hid (grown_into hS hg3.out HBL.out)
        refine hK.out _ _ HS9.out (fun hS3 => ?_)
        clear hK hb3 hg3 hS hS3 HLZ HRA
        refine wpAnyH_done (by kernel_rfl) ?_ _
        have HG9 := Lib.hid (grown_trans HG2.out HS9.out)
        have HC9 := Lib.hid (HCC2.out.kept HS9.out (by simp))
        have HCW := Lib.hid (swrite_yes V3 a b run frm unt an cn P s N0 HR9.out.lies2 HPZ.out z0 z1 z5 HCP.out)
        rw [HRD.out.2] at HCW
        have d0 : V3.cell? ⟨BQ, 0, none⟩ = some (.string a) := HB9.out.cell rfl
        have d1 : V3.cell? ⟨BQ, 1, none⟩ = some (.string b) := HB9.out.cell rfl
        have d2 : V3.cell? ⟨BQ, 2, none⟩ = some (.int .i64 (run : Int)) := HB9.out.cell rfl
        have d3 : V3.cell? ⟨BQ, 3, none⟩ = some (.int .i64 (frm : Int)) := HB9.out.cell rfl
        have d4 : V3.cell? ⟨BQ, 4, none⟩ = some (.int .i64 (unt : Int)) := HB9.out.cell rfl
        have d5 : V3.cell? ⟨BQ, 5, none⟩ = some (.slice an P.length cn) := HB9.out.cell rfl
        have d6 : V3.cell? ⟨BQ, 6, none⟩ = some (.string s) := HB9.out.cell rfl
        go_wp2_with fail
        clear d0 d1 d2 d3 d4 d5 d6
        refine HCW.out.mono ?_
        rintro e wc ⟨rfl, hgc⟩
        have HGX := Lib.hid (grown_trans HG9.out hgc)
        have HCX := Lib.hid (HC9.out.kept hgc (by simp))
        have HBX := Lib.hid (HB9.out.kept hgc (by simp))
        have HRX := Lib.hid (HR9.out.kept hgc (by simp))
        clear hgc HCW
        go_wp2_with (first
          | (refine wpList_load_blk rfl 26 _ rfl BQ (capC a b (run : Int) (frm : Int) (unt : Int) (.slice an P.length cn) s) 26 HBX.out _ Tryz.underlying26 rfl infoCap rfl ?_)
          | (refine wpList_store_blk rfl 26 _ _ rfl C (capC a b (run : Int) (frm : Int) (unt : Int) (.slice an P.length cn) s) (capC ⟨#[]⟩ ⟨#[]⟩ 0 0 0 (.slice none 0 0) ⟨#[]⟩) 26 HCX.out infoCap rfl (capC_one _ _ _ _ _ _ _ rfl) rfl rfl ?_; intro wz hbz hgz))
        exact ⟨rfl, _, results_blk Tryz.results18 _ _ C 26 _ _ _ hbz.out Tryz.underlying26 rfl infoCap rfl rfl, an, cn, rfl, (HRX.out.kept hgz.out (fun k hk e => by have h1 := (HRX.out.lt k hk).1; have h2 := HCC2.out.lt; have h3 := HN0.out; have h4 := Option.some.inj e; omega)).base (by have h1 := HG2.out.size; have h2 := HN0.out; omega), grown_into HGX.out hgz.out HWC.out⟩
    · skip
      go_simp
      obtain ⟨BQ, hBQ⟩ : ∃ x, VB.heap.size = x := ⟨_, rfl⟩
      obtain ⟨WA, hWA⟩ : ∃ x, VB.alloc (Obj.cells #[Value.string ⟨#[]⟩, .string ⟨#[]⟩, .int .i64 0, .int .i64 0, .int .i64 0, .slice none 0 0, .string ⟨#[]⟩] 26) = x := ⟨_, rfl⟩
      have HLZ := Lib.hid (show Blk WA BQ 26 (capC ⟨#[]⟩ ⟨#[]⟩ 0 0 0 (.slice none 0 0) ⟨#[]⟩) from by rw [← hWA, ← hBQ]; exact Blk.new VB 26 (capC ⟨#[]⟩ ⟨#[]⟩ 0 0 0 (.slice none 0 0) ⟨#[]⟩))
      have HBL := Lib.hid (show w2.heap.size ≤ BQ from by rw [← hBQ]; exact hS.size)
      have hga := (show VB.grownBy WA none from by rw [← hWA]; exact World.grownBy_alloc _ _ none)
      have HNQ := Lib.hid (show ∀ q, (Value.slice (some ⟨GB, 0, none⟩) 0 0).ownBlock = some q → q ≠ BQ from fun q hq e => by have h1 := (HRA.out.lt q hq).2; omega)
      have HRA := Lib.hid (HRA.out.kept hga (by simp))
      rw [hWA, hBQ]
      clear hWA hBQ
      have hS := grown_trans hS hga
      refine hK.out _ _ hS (fun hS => ?_)
      clear hK hga
      refine wpAnyH_ready (rs := [15]) (by kernel_rfl) (by simp) ?_
      refine AllReadyH.cons (o := ⟨some 59, _, _, _, _, _⟩) rfl (fun K hK => ?_) (AllReadyH.nil)
      · skip
        refine step_append_row2 rfl _ _ 22 rfl 9 i9 (.string ⟨#[]⟩) 16 Tryz.underlying22 hi9 hz0 hz1 hz2 rfl N0 (.slice (some ⟨GB, 0, none⟩) 0 0) (strs []) rfl HRA.out ⟨g1, o1, none⟩ P.length (c1 - 1) (strs P) rfl (strs_len _) (fun j u hu => World.grownBy.cell hS (HLP.out j u hu) (by simp)) (strs_one _) (by rw [strs_len]; have := HPL.out; simp; unfold maxLen; omega) (by rw [strs_len]; have := HPL.out; simp; omega) (by have := hS.size; have := HN0.out; omega) ?_
        intro v9 VC HR2 HG2 HO2
        have HRA2 := Lib.hid (show Row VC N0 v9 (strs P) from HR2.out)
        have hS2 := grown_own hS HG2.out (fun q hq => by have := (HRA.out.lt q hq).1; have := HN0.out; omega)
        have HLZ2 := Lib.hid (HLZ.out.kept HG2.out (fun e => HNQ.out BQ e.symm rfl))
        have HNQ2 := Lib.hid (show ∀ q, v9.ownBlock = some q → q ≠ BQ from fun q hq e => by
          rcases HO2.out q hq with h1 | h1
          · exact HNQ.out q h1 e
          · have h2 := HLZ.out.lt; omega)
        clear HLZ HNQ
        have HLZ := HLZ2
        have HNQ := HNQ2
        clear HLZ2 HNQ2
        clear HR2 HG2 HO2 HRA
        have HRA := HRA2
        obtain ⟨an, cn, hv9, -⟩ := (show Row VC N0 v9 (strs P) from HRA.out).lies
        subst hv9
        clear HRA2
        have hS := hS2
        clear hS2
        refine hK.out _ _ hS (fun hS => ?_)
        clear hK
        refine wpAnyH_take (i := 16) (oi := ⟨some 60, _, _, _, _, _⟩) (v := (.agg (capC a b (run : Int) (frm : Int) (unt : Int) (.slice an P.length cn) s).toArray)) rfl (by kernel_rfl) (by kernel_rfl) (by kernel_rfl) (fun _ _ _ h => h) (Or.inl ⟨by kernel_rfl, fun w' hSw => ?_⟩) hS ?_
        · go_simp
          all_goals first | rfl | (simp [*]; done)
        simp only [Act.put, List.setIfInBounds_toArray, List.set_cons_zero, List.set_cons_succ]
        refine wpAnyH_ready (rs := [18]) (by kernel_rfl) (by simp) ?_
        refine AllReadyH.cons (o := ⟨none, _, _, _, _, _⟩) rfl (fun K hK => ?_) AllReadyH.nil
        refine step_store_blk2 (by kernel_rfl) 26 _ _ rfl BQ (capC a b (run : Int) (frm : Int) (unt : Int) (.slice an P.length cn) s) (capC ⟨#[]⟩ ⟨#[]⟩ 0 0 0 (.slice none 0 0) ⟨#[]⟩) 26 HLZ.out infoCap rfl (capC_one _ _ _ _ _ _ _ rfl) rfl rfl ?_
        intro V3 hb3 hg3
        have HB9 := hb3
        have HR9 := Lib.hid (HRA.out.kept hg3.out (fun q hq e => HNQ.out q hq (Option.some.inj e)))
        have HS9 := Lib.hid (grown_into hS hg3.out HBL.out)
        refine hK.out _ _ HS9.out (fun hS3 => ?_)
        clear hK hb3 hg3 hS hS3 HLZ HRA
        refine wpAnyH_done (by kernel_rfl) ?_ _
        have HG9 := Lib.hid (grown_trans HG2.out HS9.out)
        have HC9 := Lib.hid (HCC2.out.kept HS9.out (by simp))
        have HCW := Lib.hid (swrite_yes V3 a b run frm unt an cn P s N0 HR9.out.lies2 HPZ.out z0 z1 z5 HCP.out)
        rw [HRD.out.2] at HCW
        have d0 : V3.cell? ⟨BQ, 0, none⟩ = some (.string a) := HB9.out.cell rfl
        have d1 : V3.cell? ⟨BQ, 1, none⟩ = some (.string b) := HB9.out.cell rfl
        have d2 : V3.cell? ⟨BQ, 2, none⟩ = some (.int .i64 (run : Int)) := HB9.out.cell rfl
        have d3 : V3.cell? ⟨BQ, 3, none⟩ = some (.int .i64 (frm : Int)) := HB9.out.cell rfl
        have d4 : V3.cell? ⟨BQ, 4, none⟩ = some (.int .i64 (unt : Int)) := HB9.out.cell rfl
        have d5 : V3.cell? ⟨BQ, 5, none⟩ = some (.slice an P.length cn) := HB9.out.cell rfl
        have d6 : V3.cell? ⟨BQ, 6, none⟩ = some (.string s) := HB9.out.cell rfl
        go_wp2_with fail
        clear d0 d1 d2 d3 d4 d5 d6
        refine HCW.out.mono ?_
        rintro e wc ⟨rfl, hgc⟩
        have HGX := Lib.hid (grown_trans HG9.out hgc)
        have HCX := Lib.hid (HC9.out.kept hgc (by simp))
        have HBX := Lib.hid (HB9.out.kept hgc (by simp))
        have HRX := Lib.hid (HR9.out.kept hgc (by simp))
        clear hgc HCW
        go_wp2_with (first
          | (refine wpList_load_blk rfl 26 _ rfl BQ (capC a b (run : Int) (frm : Int) (unt : Int) (.slice an P.length cn) s) 26 HBX.out _ Tryz.underlying26 rfl infoCap rfl ?_)
          | (refine wpList_store_blk rfl 26 _ _ rfl C (capC a b (run : Int) (frm : Int) (unt : Int) (.slice an P.length cn) s) (capC ⟨#[]⟩ ⟨#[]⟩ 0 0 0 (.slice none 0 0) ⟨#[]⟩) 26 HCX.out infoCap rfl (capC_one _ _ _ _ _ _ _ rfl) rfl rfl ?_; intro wz hbz hgz))
        exact ⟨rfl, _, results_blk Tryz.results18 _ _ C 26 _ _ _ hbz.out Tryz.underlying26 rfl infoCap rfl rfl, an, cn, rfl, (HRX.out.kept hgz.out (fun k hk e => by have h1 := (HRX.out.lt k hk).1; have h2 := HCC2.out.lt; have h3 := HN0.out; have h4 := Option.some.inj e; omega)).base (by have h1 := HG2.out.size; have h2 := HN0.out; omega), grown_into HGX.out hgz.out HWC.out⟩
  · skip
    go_simp
    obtain ⟨BQ, hBQ⟩ : ∃ x, V0.heap.size = x := ⟨_, rfl⟩
    obtain ⟨WA, hWA⟩ : ∃ x, V0.alloc (Obj.cells #[Value.string ⟨#[]⟩, .string ⟨#[]⟩, .int .i64 0, .int .i64 0, .int .i64 0, .slice none 0 0, .string ⟨#[]⟩] 26) = x := ⟨_, rfl⟩
    have HLZ := Lib.hid (show Blk WA BQ 26 (capC ⟨#[]⟩ ⟨#[]⟩ 0 0 0 (.slice none 0 0) ⟨#[]⟩) from by rw [← hWA, ← hBQ]; exact Blk.new V0 26 (capC ⟨#[]⟩ ⟨#[]⟩ 0 0 0 (.slice none 0 0) ⟨#[]⟩))
    have HBL := Lib.hid (show w2.heap.size ≤ BQ from by rw [← hBQ]; exact hS.size)
    have hga := (show V0.grownBy WA none from by rw [← hWA]; exact World.grownBy_alloc _ _ none)
    rw [hWA, hBQ]
    clear hWA hBQ
    have hS := grown_trans hS hga
    refine hK.out _ _ hS (fun hS => ?_)
    clear hK hga
    refine wpAnyH_ready (rs := [12]) (by kernel_rfl) (by simp) ?_
    refine AllReadyH.cons (o := ⟨some 56, _, _, _, _, _⟩) rfl (fun K hK => ?_) (AllReadyH.nil)
    · skip
      go_simp
      obtain ⟨VB, hVB⟩ : ∃ x, WA.alloc (Obj.cells #[] 9) = x := ⟨_, rfl⟩
      obtain ⟨GB, hGB⟩ : ∃ x, WA.heap.size = x := ⟨_, rfl⟩
      have hga := (show WA.grownBy VB none from by rw [← hVB]; exact World.grownBy_alloc _ _ none)
      have HRA := Lib.hid (show Row VB N0 (.slice (some ⟨GB, 0, none⟩) 0 0) (strs []) from by rw [← hVB, ← hGB]; exact Row.empty0 (by have := hS.size; have := HN0.out; omega) (by simp))
      have HNQ := Lib.hid (show ∀ q, (Value.slice (some ⟨GB, 0, none⟩) 0 0).ownBlock = some q → q ≠ BQ from fun q hq e => by have h1 := HLZ.out.lt; simp [Value.ownBlock] at hq; omega)
      have HLZ := Lib.hid (HLZ.out.kept hga (by simp))
      rw [hVB, hGB]
      clear hVB hGB
      have hS := grown_trans hS hga
      refine hK.out _ _ hS (fun hS => ?_)
      clear hK hga
      refine wpAnyH_ready (rs := [15]) (by kernel_rfl) (by simp) ?_
      refine AllReadyH.cons (o := ⟨some 59, _, _, _, _, _⟩) rfl (fun K hK => ?_) (AllReadyH.nil)
      · skip
        refine step_append_row2 rfl _ _ 22 rfl 9 i9 (.string ⟨#[]⟩) 16 Tryz.underlying22 hi9 hz0 hz1 hz2 rfl N0 (.slice (some ⟨GB, 0, none⟩) 0 0) (strs []) rfl HRA.out ⟨g1, o1, none⟩ P.length (c1 - 1) (strs P) rfl (strs_len _) (fun j u hu => World.grownBy.cell hS (HLP.out j u hu) (by simp)) (strs_one _) (by rw [strs_len]; have := HPL.out; simp; unfold maxLen; omega) (by rw [strs_len]; have := HPL.out; simp; omega) (by have := hS.size; have := HN0.out; omega) ?_
        intro v9 VC HR2 HG2 HO2
        have HRA2 := Lib.hid (show Row VC N0 v9 (strs P) from HR2.out)
        have hS2 := grown_own hS HG2.out (fun q hq => by have := (HRA.out.lt q hq).1; have := HN0.out; omega)
        have HLZ2 := Lib.hid (HLZ.out.kept HG2.out (fun e => HNQ.out BQ e.symm rfl))
        have HNQ2 := Lib.hid (show ∀ q, v9.ownBlock = some q → q ≠ BQ from fun q hq e => by
          rcases HO2.out q hq with h1 | h1
          · exact HNQ.out q h1 e
          · have h2 := HLZ.out.lt; omega)
        clear HLZ HNQ
        have HLZ := HLZ2
        have HNQ := HNQ2
        clear HLZ2 HNQ2
        clear HR2 HG2 HO2 HRA
        have HRA := HRA2
        obtain ⟨an, cn, hv9, -⟩ := (show Row VC N0 v9 (strs P) from HRA.out).lies
        subst hv9
        clear HRA2
        have hS := hS2
        clear hS2
        refine hK.out _ _ hS (fun hS => ?_)
        clear hK
        refine wpAnyH_take (i := 16) (oi := ⟨some 60, _, _, _, _, _⟩) (v := (.agg (capC a b (run : Int) (frm : Int) (unt : Int) (.slice an P.length cn) s).toArray)) rfl (by kernel_rfl) (by kernel_rfl) (by kernel_rfl) (fun _ _ _ h => h) (Or.inl ⟨by kernel_rfl, fun w' hSw => ?_⟩) hS ?_
        · go_simp
          all_goals first | rfl | (simp [*]; done)
        simp only [Act.put, List.setIfInBounds_toArray, List.set_cons_zero, List.set_cons_succ]
        refine wpAnyH_ready (rs := [18]) (by kernel_rfl) (by simp) ?_
        refine AllReadyH.cons (o := ⟨none, _, _, _, _, _⟩) rfl (fun K hK => ?_) AllReadyH.nil
        refine step_store_blk2 (by kernel_rfl) 26 _ _ rfl BQ (capC a b (run : Int) (frm : Int) (unt : Int) (.slice an P.length cn) s) (capC ⟨#[]⟩ ⟨#[]⟩ 0 0 0 (.slice none 0 0) ⟨#[]⟩) 26 HLZ.out infoCap rfl (capC_one _ _ _ _ _ _ _ rfl) rfl rfl ?_
        intro V3 hb3 hg3
        have HB9 := hb3
        have HR9 := Lib.hid (HRA.out.kept hg3.out (fun q hq e => HNQ.out q hq (Option.some.inj e)))
        have HS9 := Lib.hid (grown_into hS hg3.out HBL.out)
        refine hK.out _ _ HS9.out (fun hS3 => ?_)
        clear hK hb3 hg3 hS hS3 HLZ HRA
        refine wpAnyH_done (by kernel_rfl) ?_ _
        have HG9 := Lib.hid (grown_trans HG2.out HS9.out)
        have HC9 := Lib.hid (HCC2.out.kept HS9.out (by simp))
        have HCW := Lib.hid (swrite_yes V3 a b run frm unt an cn P s N0 HR9.out.lies2 HPZ.out z0 z1 z5 HCP.out)
        rw [HRD.out.2] at HCW
        have d0 : V3.cell? ⟨BQ, 0, none⟩ = some (.string a) := HB9.out.cell rfl
        have d1 : V3.cell? ⟨BQ, 1, none⟩ = some (.string b) := HB9.out.cell rfl
        have d2 : V3.cell? ⟨BQ, 2, none⟩ = some (.int .i64 (run : Int)) := HB9.out.cell rfl
        have d3 : V3.cell? ⟨BQ, 3, none⟩ = some (.int .i64 (frm : Int)) := HB9.out.cell rfl
        have d4 : V3.cell? ⟨BQ, 4, none⟩ = some (.int .i64 (unt : Int)) := HB9.out.cell rfl
        have d5 : V3.cell? ⟨BQ, 5, none⟩ = some (.slice an P.length cn) := HB9.out.cell rfl
        have d6 : V3.cell? ⟨BQ, 6, none⟩ = some (.string s) := HB9.out.cell rfl
        go_wp2_with fail
        clear d0 d1 d2 d3 d4 d5 d6
        refine HCW.out.mono ?_
        rintro e wc ⟨rfl, hgc⟩
        have HGX := Lib.hid (grown_trans HG9.out hgc)
        have HCX := Lib.hid (HC9.out.kept hgc (by simp))
        have HBX := Lib.hid (HB9.out.kept hgc (by simp))
        have HRX := Lib.hid (HR9.out.kept hgc (by simp))
        clear hgc HCW
        go_wp2_with (first
          | (refine wpList_load_blk rfl 26 _ rfl BQ (capC a b (run : Int) (frm : Int) (unt : Int) (.slice an P.length cn) s) 26 HBX.out _ Tryz.underlying26 rfl infoCap rfl ?_)
          | (refine wpList_store_blk rfl 26 _ _ rfl C (capC a b (run : Int) (frm : Int) (unt : Int) (.slice an P.length cn) s) (capC ⟨#[]⟩ ⟨#[]⟩ 0 0 0 (.slice none 0 0) ⟨#[]⟩) 26 HCX.out infoCap rfl (capC_one _ _ _ _ _ _ _ rfl) rfl rfl ?_; intro wz hbz hgz))
        exact ⟨rfl, _, results_blk Tryz.results18 _ _ C 26 _ _ _ hbz.out Tryz.underlying26 rfl infoCap rfl rfl, an, cn, rfl, (HRX.out.kept hgz.out (fun k hk e => by have h1 := (HRX.out.lt k hk).1; have h2 := HCC2.out.lt; have h3 := HN0.out; have h4 := Option.some.inj e; omega)).base (by have h1 := HG2.out.size; have h2 := HN0.out; omega), grown_into HGX.out hgz.out HWC.out⟩

set_option maxRecDepth 100000 in
set_option maxHeartbeats 32000000 in
theorem sread_no (w : World) (text : ByteArray) (hs : text.size ≤ 1048576) (hr : ∀ a b run frm unt M s, ¬ RdP text a b run frm unt M s) :
    Calls Tryz.prog 18 #[.string text] w fun e w' => e = .returned (.tuple #[.agg #[.string ⟨#[]⟩, .string ⟨#[]⟩, .int .i64 0, .int .i64 0, .int .i64 0, .slice none 0 0, .string ⟨#[]⟩], .bool false]) ∧ w.grownBy w' none := by
  obtain ⟨i9, hi9, hz0, hz1, hz2⟩ := info_parts infoStr0
  obtain ⟨W, hW⟩ : ∃ W, w.alloc (Obj.cells #[Value.string ⟨#[]⟩, .string ⟨#[]⟩, .int .i64 0, .int .i64 0, .int .i64 0, .slice none 0 0, .string ⟨#[]⟩] 26) = W := ⟨_, rfl⟩
  obtain ⟨C, hC⟩ : ∃ x, w.heap.size = x := ⟨_, rfl⟩
  have HG := Lib.hid (show w.grownBy W none from by rw [← hW]; exact grown_alloc (grown_refl _ _) _)
  have HCC := Lib.hid (show Blk W C 26 (capC ⟨#[]⟩ ⟨#[]⟩ 0 0 0 (.slice none 0 0) ⟨#[]⟩) from by rw [← hW, ← hC]; exact Blk.new w 26 (capC ⟨#[]⟩ ⟨#[]⟩ 0 0 0 (.slice none 0 0) ⟨#[]⟩))
  have HWC := Lib.hid (show w.heap.size ≤ C from by omega)
  have HW := Lib.hid hW
  have HCE := Lib.hid hC
  have HRD := Lib.hid hr
  have HSZ := Lib.hid hs
  clear hW hC hr
  go_enter Tryz.func18, Tryz.ntmps18
  go_wp2_with fail
  rw [HW.out, HCE.out]
  refine (scut_any W text 59 59 rfl hs).mono ?_
  rintro e w1 ⟨⟨L, a1, c1, rfl, hr1, hne, -, hfree, hj⟩, hg1⟩
  cases L with
  | nil => exact absurd rfl hne
  | cons p P =>
  obtain ⟨g1, rfl, hg1b, hc1, hk1⟩ := hr1.at
  have HCC1 := Lib.hid (HCC.out.kept hg1 (by simp))
  have HG1 := Lib.hid (grown_trans HG.out hg1)
  have HK1 := Lib.hid hk1
  have HFR := Lib.hid hfree
  have HJ := Lib.hid hj
  have HG1L := Lib.hid (show g1 < w1.heap.size from (hr1.lt g1 rfl).2)
  have hps := pieces_size 59 p P
  rw [hj] at hps
  have hpz : p.size ≤ 1048576 := by omega
  have HPL := Lib.hid (show P.length ≤ 1048576 from by omega)
  have HPZ := Lib.hid (show ∀ q ∈ P, q.size ≤ 1048576 from fun q hq => by have := hps.2.2 q hq; omega)
  have m0 : w1.cell? ⟨g1, 0, none⟩ = some (.string p) := hk1 0 (by simp)
  have hC1 := Lib.hid hc1
  rw [List.length_cons]
  clear hr1 hg1 hne hfree hj hps hk1 hc1 HCC HG
  go_wp2_with fail
  refine (scut_any w1 p 32 32 rfl hpz).mono ?_
  rintro e w2 ⟨⟨K, a2, c2, rfl, hr2, hkne, -, hkf, hkj⟩, hg2⟩
  have HCC2 := Lib.hid (HCC1.out.kept hg2 (by simp))
  have HG2 := Lib.hid (grown_trans HG1.out hg2)
  have HKP := Lib.hid (fun j (hj : j < (p :: P).length) => hg2.cell (HK1.out j hj) (by simp))
  have HG1L2 := Lib.hid (show g1 < w2.heap.size from by have := hg2.size; have := HG1L.out; omega)
  clear hg2 HCC1 HG1 HK1 HG1L m0
  by_cases h6 : K.length = 6
  case neg =>
    have h6b : ((K.length : Int) == 6) = false := by rw [beq_eq_false_iff_ne]; omega
    have h6c : ¬ ((K.length : Int) = 6) := by omega
    go_wp2_with (refine wpList_store_blk rfl 26 _ _ rfl C (capC ⟨#[]⟩ ⟨#[]⟩ 0 0 0 (.slice none 0 0) ⟨#[]⟩) (capC ⟨#[]⟩ ⟨#[]⟩ 0 0 0 (.slice none 0 0) ⟨#[]⟩) 26 HCC2.out infoCap rfl capZ0_one rfl rfl ?_; intro wz hbz hgz)
    exact ⟨rfl, _, results_blk Tryz.results18 _ _ C 26 _ _ _ hbz.out Tryz.underlying26 rfl infoCap rfl rfl, rfl, grown_into HG2.out hgz.out HWC.out⟩
  obtain ⟨k0, k1, k2, k3, k4, k5, rfl⟩ := six_of K h6
  obtain ⟨g2, rfl, -, hc2, hk2⟩ := hr2.at
  have hsz : ∀ q ∈ [k0, k1, k2, k3, k4, k5], q.size ≤ 1048576 := fun q hq => by have := joinB_len 32 _ q hq; rw [hkj] at this; simp only [List.length_cons, List.length_nil] at this; omega
  have HT5 := Lib.hid (show text.size ≠ 0 from by have h1 := six_size 32 _ h6; have h2 := pieces_size 59 p P; rw [hkj] at h1; rw [HJ.out] at h2; omega)
  clear h6 hkne hkf
  have q0 : w2.cell? ⟨g2, 0, none⟩ = some (.string k0) := hk2 0 (by simp)
  have z0 : k0.size ≤ 1048576 := hsz _ (by simp)
  have q1 : w2.cell? ⟨g2, 1, none⟩ = some (.string k1) := hk2 1 (by simp)
  have z1 : k1.size ≤ 1048576 := hsz _ (by simp)
  have q2 : w2.cell? ⟨g2, 2, none⟩ = some (.string k2) := hk2 2 (by simp)
  have z2 : k2.size ≤ 1048576 := hsz _ (by simp)
  have q3 : w2.cell? ⟨g2, 3, none⟩ = some (.string k3) := hk2 3 (by simp)
  have z3 : k3.size ≤ 1048576 := hsz _ (by simp)
  have q4 : w2.cell? ⟨g2, 4, none⟩ = some (.string k4) := hk2 4 (by simp)
  have z4 : k4.size ≤ 1048576 := hsz _ (by simp)
  have q5 : w2.cell? ⟨g2, 5, none⟩ = some (.string k5) := hk2 5 (by simp)
  have z5 : k5.size ≤ 1048576 := hsz _ (by simp)
  have HK0 := Lib.hid q0
  have HK1 := Lib.hid q1
  have HK5 := Lib.hid q5
  have hC2 := Lib.hid hc2
  clear hk2 hc2 hsz hkj hr2 q0 q1 q5
  go_wp2_with fail
  refine (snum_any w2 k2 z2).mono ?_
  rintro e wx ⟨⟨n2, b2, rfl, hn2⟩, hwx⟩
  have hwx := hwx.symm
  subst hwx
  clear hn2
  go_wp2_with fail
  refine (snum_any w2 k3 z3).mono ?_
  rintro e wx ⟨⟨n3, b3, rfl, hn3⟩, hwx⟩
  have hwx := hwx.symm
  subst hwx
  clear hn3
  go_wp2_with fail
  refine (snum_any w2 k4 z4).mono ?_
  rintro e wx ⟨⟨n4, b4, rfl, hn4⟩, hwx⟩
  have hwx := hwx.symm
  subst hwx
  clear hn4
  obtain ⟨N0, hN0⟩ : ∃ x, w2.heap.size = x := ⟨_, rfl⟩
  have HN0 := Lib.hid hN0
  obtain ⟨o1, hsl, hlp⟩ := cut_at w2 g1 c1 p P HKP.out hC1.out
  have HLP := Lib.hid hlp
  clear hN0 hlp q2 q3 q4
  go_wp2
  refine wp_region_held_drew (S := fun V => w2.grownBy V none) (by kernel_rfl) (grown_drew (grown_refl _ _)) (fun hS => ?_)
  generalize w2.drew = V0 at hS ⊢
  try dsimp only at hS
  refine wpAnyH_take (i := 0) (oi := ⟨some 44, _, _, _, _, _⟩) (v := (.slice (some ⟨g2, 0, none⟩) 6 c2)) rfl (by kernel_rfl) (by kernel_rfl) (by kernel_rfl) (fun _ _ _ h => h) (Or.inl ⟨by kernel_rfl, fun w' hSw => ?_⟩) hS ?_
  · go_simp
    all_goals first | rfl | (simp [*]; done)
  simp only [Act.put, List.setIfInBounds_toArray, List.set_cons_zero, List.set_cons_succ]
  refine wpAnyH_take (i := 1) (oi := ⟨some 45, _, _, _, _, _⟩) (v := (.pointer (some ⟨g2, 0, none⟩))) rfl (by kernel_rfl) (by kernel_rfl) (by kernel_rfl) (fun _ _ _ h => h) (Or.inl ⟨by kernel_rfl, fun w' hSw => ?_⟩) hS ?_
  · go_simp
    all_goals first | rfl | (simp [*]; done)
  simp only [Act.put, List.setIfInBounds_toArray, List.set_cons_zero, List.set_cons_succ]
  refine wpAnyH_take (i := 2) (oi := ⟨some 46, _, _, _, _, _⟩) (v := (.string k0)) rfl (by kernel_rfl) (by kernel_rfl) (by kernel_rfl) (fun _ _ _ h => h) (Or.inl ⟨by kernel_rfl, fun w' hSw => ?_⟩) hS ?_
  · have kf := World.grownBy.cell hSw HK0.out (by simp)
    go_simp
    all_goals first | rfl | (simp [*]; done)
  simp only [Act.put, List.setIfInBounds_toArray, List.set_cons_zero, List.set_cons_succ]
  refine wpAnyH_take (i := 3) (oi := ⟨some 47, _, _, _, _, _⟩) (v := (.slice (some ⟨g2, 0, none⟩) 6 c2)) rfl (by kernel_rfl) (by kernel_rfl) (by kernel_rfl) (fun _ _ _ h => h) (Or.inl ⟨by kernel_rfl, fun w' hSw => ?_⟩) hS ?_
  · go_simp
    all_goals first | rfl | (simp [*]; done)
  simp only [Act.put, List.setIfInBounds_toArray, List.set_cons_zero, List.set_cons_succ]
  refine wpAnyH_take (i := 4) (oi := ⟨some 48, _, _, _, _, _⟩) (v := (.pointer (some ⟨g2, 1, none⟩))) rfl (by kernel_rfl) (by kernel_rfl) (by kernel_rfl) (fun _ _ _ h => h) (Or.inl ⟨by kernel_rfl, fun w' hSw => ?_⟩) hS ?_
  · go_simp
    all_goals first | rfl | (simp [*]; done)
  simp only [Act.put, List.setIfInBounds_toArray, List.set_cons_zero, List.set_cons_succ]
  refine wpAnyH_take (i := 5) (oi := ⟨some 49, _, _, _, _, _⟩) (v := (.string k1)) rfl (by kernel_rfl) (by kernel_rfl) (by kernel_rfl) (fun _ _ _ h => h) (Or.inl ⟨by kernel_rfl, fun w' hSw => ?_⟩) hS ?_
  · have kf := World.grownBy.cell hSw HK1.out (by simp)
    go_simp
    all_goals first | rfl | (simp [*]; done)
  simp only [Act.put, List.setIfInBounds_toArray, List.set_cons_zero, List.set_cons_succ]
  refine wpAnyH_take (i := 6) (oi := ⟨some 50, _, _, _, _, _⟩) (v := (.int .i64 n2)) rfl (by kernel_rfl) (by kernel_rfl) (by kernel_rfl) (fun _ _ _ h => h) (Or.inl ⟨by kernel_rfl, fun w' hSw => ?_⟩) hS ?_
  · go_simp
    all_goals first | rfl | (simp [*]; done)
  simp only [Act.put, List.setIfInBounds_toArray, List.set_cons_zero, List.set_cons_succ]
  refine wpAnyH_take (i := 7) (oi := ⟨some 51, _, _, _, _, _⟩) (v := (.int .i64 n3)) rfl (by kernel_rfl) (by kernel_rfl) (by kernel_rfl) (fun _ _ _ h => h) (Or.inl ⟨by kernel_rfl, fun w' hSw => ?_⟩) hS ?_
  · go_simp
    all_goals first | rfl | (simp [*]; done)
  simp only [Act.put, List.setIfInBounds_toArray, List.set_cons_zero, List.set_cons_succ]
  refine wpAnyH_take (i := 8) (oi := ⟨some 52, _, _, _, _, _⟩) (v := (.int .i64 n4)) rfl (by kernel_rfl) (by kernel_rfl) (by kernel_rfl) (fun _ _ _ h => h) (Or.inl ⟨by kernel_rfl, fun w' hSw => ?_⟩) hS ?_
  · go_simp
    all_goals first | rfl | (simp [*]; done)
  simp only [Act.put, List.setIfInBounds_toArray, List.set_cons_zero, List.set_cons_succ]
  refine wpAnyH_take (i := 9) (oi := ⟨some 53, _, _, _, _, _⟩) (v := (.slice (some ⟨g2, 0, none⟩) 6 c2)) rfl (by kernel_rfl) (by kernel_rfl) (by kernel_rfl) (fun _ _ _ h => h) (Or.inl ⟨by kernel_rfl, fun w' hSw => ?_⟩) hS ?_
  · go_simp
    all_goals first | rfl | (simp [*]; done)
  simp only [Act.put, List.setIfInBounds_toArray, List.set_cons_zero, List.set_cons_succ]
  refine wpAnyH_take (i := 10) (oi := ⟨some 54, _, _, _, _, _⟩) (v := (.pointer (some ⟨g2, 5, none⟩))) rfl (by kernel_rfl) (by kernel_rfl) (by kernel_rfl) (fun _ _ _ h => h) (Or.inl ⟨by kernel_rfl, fun w' hSw => ?_⟩) hS ?_
  · go_simp
    all_goals first | rfl | (simp [*]; done)
  simp only [Act.put, List.setIfInBounds_toArray, List.set_cons_zero, List.set_cons_succ]
  refine wpAnyH_take (i := 11) (oi := ⟨some 55, _, _, _, _, _⟩) (v := (.string k5)) rfl (by kernel_rfl) (by kernel_rfl) (by kernel_rfl) (fun _ _ _ h => h) (Or.inl ⟨by kernel_rfl, fun w' hSw => ?_⟩) hS ?_
  · have kf := World.grownBy.cell hSw HK5.out (by simp)
    go_simp
    all_goals first | rfl | (simp [*]; done)
  simp only [Act.put, List.setIfInBounds_toArray, List.set_cons_zero, List.set_cons_succ]
  refine wpAnyH_take (i := 13) (oi := ⟨some 57, _, _, _, _, _⟩) (v := (.slice (some ⟨g1, 0, none⟩) (P.length + 1) c1)) rfl (by kernel_rfl) (by kernel_rfl) (by kernel_rfl) (fun _ _ _ h => h) (Or.inl ⟨by kernel_rfl, fun w' hSw => ?_⟩) hS ?_
  · go_simp
    all_goals first | rfl | (simp [*]; done)
  simp only [Act.put, List.setIfInBounds_toArray, List.set_cons_zero, List.set_cons_succ]
  refine wpAnyH_take (i := 14) (oi := ⟨some 58, _, _, _, _, _⟩) (v := (.slice (some ⟨g1, o1, none⟩) P.length (c1 - 1))) rfl (by kernel_rfl) (by kernel_rfl) (by kernel_rfl) (fun _ _ _ h => h) (Or.inl ⟨by kernel_rfl, fun w' hSw => ?_⟩) hS ?_
  · go_simp
    all_goals first | rfl | (simp [*]; done) | (rcases hsl with ⟨h1, h2⟩ | ⟨h1, h2⟩ <;> simp [h1, h2] <;> (intro h5; omega))
  simp only [Act.put, List.setIfInBounds_toArray, List.set_cons_zero, List.set_cons_succ]
  refine wpAnyH_ready (rs := [12, 17]) (by kernel_rfl) (by simp) ?_
  refine AllReadyH.cons (o := ⟨some 56, _, _, _, _, _⟩) rfl (fun K hK => ?_) (AllReadyH.cons (o := ⟨some 12, _, _, _, _, _⟩) rfl (fun K hK => ?_) (AllReadyH.nil))
  · skip
    go_simp
    obtain ⟨VB, hVB⟩ : ∃ x, V0.alloc (Obj.cells #[] 9) = x := ⟨_, rfl⟩
    obtain ⟨GB, hGB⟩ : ∃ x, V0.heap.size = x := ⟨_, rfl⟩
    have hga := (show V0.grownBy VB none from by rw [← hVB]; exact World.grownBy_alloc _ _ none)
    have HRA := Lib.hid (show Row VB N0 (.slice (some ⟨GB, 0, none⟩) 0 0) (strs []) from by rw [← hVB, ← hGB]; exact Row.empty0 (by have := hS.size; have := HN0.out; omega) (by simp))
    rw [hVB, hGB]
    clear hVB hGB
    have hS := grown_trans hS hga
    refine hK.out _ _ hS (fun hS => ?_)
    clear hK hga
    refine wpAnyH_ready (rs := [15, 17]) (by kernel_rfl) (by simp) ?_
    refine AllReadyH.cons (o := ⟨some 59, _, _, _, _, _⟩) rfl (fun K hK => ?_) (AllReadyH.cons (o := ⟨some 12, _, _, _, _, _⟩) rfl (fun K hK => ?_) (AllReadyH.nil))
    · skip
      refine step_append_row2 rfl _ _ 22 rfl 9 i9 (.string ⟨#[]⟩) 16 Tryz.underlying22 hi9 hz0 hz1 hz2 rfl N0 (.slice (some ⟨GB, 0, none⟩) 0 0) (strs []) rfl HRA.out ⟨g1, o1, none⟩ P.length (c1 - 1) (strs P) rfl (strs_len _) (fun j u hu => World.grownBy.cell hS (HLP.out j u hu) (by simp)) (strs_one _) (by rw [strs_len]; have := HPL.out; simp; unfold maxLen; omega) (by rw [strs_len]; have := HPL.out; simp; omega) (by have := hS.size; have := HN0.out; omega) ?_
      intro v9 VC HR2 HG2 HO2
      have HRA2 := Lib.hid (show Row VC N0 v9 (strs P) from HR2.out)
      have hS2 := grown_own hS HG2.out (fun q hq => by have := (HRA.out.lt q hq).1; have := HN0.out; omega)
      clear HR2 HG2 HO2 HRA
      have HRA := HRA2
      obtain ⟨an, cn, hv9, -⟩ := (show Row VC N0 v9 (strs P) from HRA.out).lies
      subst hv9
      clear HRA2
      have hS := hS2
      clear hS2
      refine hK.out _ _ hS (fun hS => ?_)
      clear hK
      refine wpAnyH_take (i := 16) (oi := ⟨some 60, _, _, _, _, _⟩) (v := (.agg (capC k0 k1 n2 n3 n4 (.slice an P.length cn) k5).toArray)) rfl (by kernel_rfl) (by kernel_rfl) (by kernel_rfl) (fun _ _ _ h => h) (Or.inl ⟨by kernel_rfl, fun w' hSw => ?_⟩) hS ?_
      · go_simp
        all_goals first | rfl | (simp [*]; done)
      simp only [Act.put, List.setIfInBounds_toArray, List.set_cons_zero, List.set_cons_succ]
      refine wpAnyH_ready (rs := [17]) (by kernel_rfl) (by simp) ?_
      refine AllReadyH.cons (o := ⟨some 12, _, _, _, _, _⟩) rfl (fun K hK => ?_) (AllReadyH.nil)
      · skip
        go_simp
        obtain ⟨BQ, hBQ⟩ : ∃ x, VC.heap.size = x := ⟨_, rfl⟩
        obtain ⟨WA, hWA⟩ : ∃ x, VC.alloc (Obj.cells #[Value.string ⟨#[]⟩, .string ⟨#[]⟩, .int .i64 0, .int .i64 0, .int .i64 0, .slice none 0 0, .string ⟨#[]⟩] 26) = x := ⟨_, rfl⟩
        have HLZ := Lib.hid (show Blk WA BQ 26 (capC ⟨#[]⟩ ⟨#[]⟩ 0 0 0 (.slice none 0 0) ⟨#[]⟩) from by rw [← hWA, ← hBQ]; exact Blk.new VC 26 (capC ⟨#[]⟩ ⟨#[]⟩ 0 0 0 (.slice none 0 0) ⟨#[]⟩))
        have HBL := Lib.hid (show w2.heap.size ≤ BQ from by rw [← hBQ]; exact hS.size)
        have hga := (show VC.grownBy WA none from by rw [← hWA]; exact World.grownBy_alloc _ _ none)
        have HNQ := Lib.hid (show ∀ q, (Value.slice an P.length cn).ownBlock = some q → q ≠ BQ from fun q hq e => by have h1 := (HRA.out.lt q hq).2; omega)
        have HRA := Lib.hid (HRA.out.kept hga (by simp))
        rw [hWA, hBQ]
        clear hWA hBQ
        have hS := grown_trans hS hga
        refine hK.out _ _ hS (fun hS => ?_)
        clear hK hga
        refine wpAnyH_ready (rs := [18]) (by kernel_rfl) (by simp) ?_
        refine AllReadyH.cons (o := ⟨none, _, _, _, _, _⟩) rfl (fun K hK => ?_) AllReadyH.nil
        refine step_store_blk2 (by kernel_rfl) 26 _ _ rfl BQ (capC k0 k1 n2 n3 n4 (.slice an P.length cn) k5) (capC ⟨#[]⟩ ⟨#[]⟩ 0 0 0 (.slice none 0 0) ⟨#[]⟩) 26 HLZ.out infoCap rfl (capC_one _ _ _ _ _ _ _ rfl) rfl rfl ?_
        intro V3 hb3 hg3
        have HB9 := hb3
        have HR9 := Lib.hid (HRA.out.kept hg3.out (fun q hq e => HNQ.out q hq (Option.some.inj e)))
        have HS9 := Lib.hid (grown_into hS hg3.out HBL.out)
        refine hK.out _ _ HS9.out (fun hS3 => ?_)
        clear hK hb3 hg3 hS hS3 HLZ HRA
        refine wpAnyH_done (by kernel_rfl) ?_ _
        have HG9 := Lib.hid (grown_trans HG2.out HS9.out)
        have HC9 := Lib.hid (HCC2.out.kept HS9.out (by simp))
        obtain ⟨T, hT, hcw⟩ := swrite_not V3 text k0 k1 n2 n3 n4 an cn P k5 N0 HR9.out.lies2 HPL.out HPZ.out z0 z1 z5 HRD.out HT5.out
        have HCW := Lib.hid hcw
        have hTb : (T.toList == text.toList) = false := by rw [beq_eq_false_iff_ne]; exact hT
        have hTc : ¬ T.toList = text.toList := hT
        clear hcw
        cases b2
        case false =>
          have HGX := HG9
          have HCX := HC9
          go_wp2_with (refine wpList_store_blk rfl 26 _ _ rfl C (capC ⟨#[]⟩ ⟨#[]⟩ 0 0 0 (.slice none 0 0) ⟨#[]⟩) (capC ⟨#[]⟩ ⟨#[]⟩ 0 0 0 (.slice none 0 0) ⟨#[]⟩) 26 HCX.out infoCap rfl capZ0_one rfl rfl ?_; intro wz hbz hgz)
          exact ⟨rfl, _, results_blk Tryz.results18 _ _ C 26 _ _ _ hbz.out Tryz.underlying26 rfl infoCap rfl rfl, rfl, grown_into HGX.out hgz.out HWC.out⟩
        cases b3
        case false =>
          have HGX := HG9
          have HCX := HC9
          go_wp2_with (refine wpList_store_blk rfl 26 _ _ rfl C (capC ⟨#[]⟩ ⟨#[]⟩ 0 0 0 (.slice none 0 0) ⟨#[]⟩) (capC ⟨#[]⟩ ⟨#[]⟩ 0 0 0 (.slice none 0 0) ⟨#[]⟩) 26 HCX.out infoCap rfl capZ0_one rfl rfl ?_; intro wz hbz hgz)
          exact ⟨rfl, _, results_blk Tryz.results18 _ _ C 26 _ _ _ hbz.out Tryz.underlying26 rfl infoCap rfl rfl, rfl, grown_into HGX.out hgz.out HWC.out⟩
        cases b4
        case false =>
          have HGX := HG9
          have HCX := HC9
          go_wp2_with (refine wpList_store_blk rfl 26 _ _ rfl C (capC ⟨#[]⟩ ⟨#[]⟩ 0 0 0 (.slice none 0 0) ⟨#[]⟩) (capC ⟨#[]⟩ ⟨#[]⟩ 0 0 0 (.slice none 0 0) ⟨#[]⟩) 26 HCX.out infoCap rfl capZ0_one rfl rfl ?_; intro wz hbz hgz)
          exact ⟨rfl, _, results_blk Tryz.results18 _ _ C 26 _ _ _ hbz.out Tryz.underlying26 rfl infoCap rfl rfl, rfl, grown_into HGX.out hgz.out HWC.out⟩
        have d0 : V3.cell? ⟨BQ, 0, none⟩ = some (.string k0) := HB9.out.cell rfl
        have d1 : V3.cell? ⟨BQ, 1, none⟩ = some (.string k1) := HB9.out.cell rfl
        have d2 : V3.cell? ⟨BQ, 2, none⟩ = some (.int .i64 n2) := HB9.out.cell rfl
        have d3 : V3.cell? ⟨BQ, 3, none⟩ = some (.int .i64 n3) := HB9.out.cell rfl
        have d4 : V3.cell? ⟨BQ, 4, none⟩ = some (.int .i64 n4) := HB9.out.cell rfl
        have d5 : V3.cell? ⟨BQ, 5, none⟩ = some (.slice an P.length cn) := HB9.out.cell rfl
        have d6 : V3.cell? ⟨BQ, 6, none⟩ = some (.string k5) := HB9.out.cell rfl
        go_wp2_with fail
        clear d0 d1 d2 d3 d4 d5 d6
        refine HCW.out.mono ?_
        rintro e wc ⟨rfl, hgc⟩
        have HGX := Lib.hid (grown_trans HG9.out hgc)
        have HCX := Lib.hid (HC9.out.kept hgc (by simp))
        clear hgc HCW
        go_wp2_with (refine wpList_store_blk rfl 26 _ _ rfl C (capC ⟨#[]⟩ ⟨#[]⟩ 0 0 0 (.slice none 0 0) ⟨#[]⟩) (capC ⟨#[]⟩ ⟨#[]⟩ 0 0 0 (.slice none 0 0) ⟨#[]⟩) 26 HCX.out infoCap rfl capZ0_one rfl rfl ?_; intro wz hbz hgz)
        exact ⟨rfl, _, results_blk Tryz.results18 _ _ C 26 _ _ _ hbz.out Tryz.underlying26 rfl infoCap rfl rfl, rfl, grown_into HGX.out hgz.out HWC.out⟩
    · skip
      go_simp
      obtain ⟨BQ, hBQ⟩ : ∃ x, VB.heap.size = x := ⟨_, rfl⟩
      obtain ⟨WA, hWA⟩ : ∃ x, VB.alloc (Obj.cells #[Value.string ⟨#[]⟩, .string ⟨#[]⟩, .int .i64 0, .int .i64 0, .int .i64 0, .slice none 0 0, .string ⟨#[]⟩] 26) = x := ⟨_, rfl⟩
      have HLZ := Lib.hid (show Blk WA BQ 26 (capC ⟨#[]⟩ ⟨#[]⟩ 0 0 0 (.slice none 0 0) ⟨#[]⟩) from by rw [← hWA, ← hBQ]; exact Blk.new VB 26 (capC ⟨#[]⟩ ⟨#[]⟩ 0 0 0 (.slice none 0 0) ⟨#[]⟩))
      have HBL := Lib.hid (show w2.heap.size ≤ BQ from by rw [← hBQ]; exact hS.size)
      have hga := (show VB.grownBy WA none from by rw [← hWA]; exact World.grownBy_alloc _ _ none)
      have HNQ := Lib.hid (show ∀ q, (Value.slice (some ⟨GB, 0, none⟩) 0 0).ownBlock = some q → q ≠ BQ from fun q hq e => by have h1 := (HRA.out.lt q hq).2; omega)
      have HRA := Lib.hid (HRA.out.kept hga (by simp))
      rw [hWA, hBQ]
      clear hWA hBQ
      have hS := grown_trans hS hga
      refine hK.out _ _ hS (fun hS => ?_)
      clear hK hga
      refine wpAnyH_ready (rs := [15]) (by kernel_rfl) (by simp) ?_
      refine AllReadyH.cons (o := ⟨some 59, _, _, _, _, _⟩) rfl (fun K hK => ?_) (AllReadyH.nil)
      · skip
        refine step_append_row2 rfl _ _ 22 rfl 9 i9 (.string ⟨#[]⟩) 16 Tryz.underlying22 hi9 hz0 hz1 hz2 rfl N0 (.slice (some ⟨GB, 0, none⟩) 0 0) (strs []) rfl HRA.out ⟨g1, o1, none⟩ P.length (c1 - 1) (strs P) rfl (strs_len _) (fun j u hu => World.grownBy.cell hS (HLP.out j u hu) (by simp)) (strs_one _) (by rw [strs_len]; have := HPL.out; simp; unfold maxLen; omega) (by rw [strs_len]; have := HPL.out; simp; omega) (by have := hS.size; have := HN0.out; omega) ?_
        intro v9 VC HR2 HG2 HO2
        have HRA2 := Lib.hid (show Row VC N0 v9 (strs P) from HR2.out)
        have hS2 := grown_own hS HG2.out (fun q hq => by have := (HRA.out.lt q hq).1; have := HN0.out; omega)
        have HLZ2 := Lib.hid (HLZ.out.kept HG2.out (fun e => HNQ.out BQ e.symm rfl))
        have HNQ2 := Lib.hid (show ∀ q, v9.ownBlock = some q → q ≠ BQ from fun q hq e => by
          rcases HO2.out q hq with h1 | h1
          · exact HNQ.out q h1 e
          · have h2 := HLZ.out.lt; omega)
        clear HLZ HNQ
        have HLZ := HLZ2
        have HNQ := HNQ2
        clear HLZ2 HNQ2
        clear HR2 HG2 HO2 HRA
        have HRA := HRA2
        obtain ⟨an, cn, hv9, -⟩ := (show Row VC N0 v9 (strs P) from HRA.out).lies
        subst hv9
        clear HRA2
        have hS := hS2
        clear hS2
        refine hK.out _ _ hS (fun hS => ?_)
        clear hK
        refine wpAnyH_take (i := 16) (oi := ⟨some 60, _, _, _, _, _⟩) (v := (.agg (capC k0 k1 n2 n3 n4 (.slice an P.length cn) k5).toArray)) rfl (by kernel_rfl) (by kernel_rfl) (by kernel_rfl) (fun _ _ _ h => h) (Or.inl ⟨by kernel_rfl, fun w' hSw => ?_⟩) hS ?_
        · go_simp
          all_goals first | rfl | (simp [*]; done)
        simp only [Act.put, List.setIfInBounds_toArray, List.set_cons_zero, List.set_cons_succ]
        refine wpAnyH_ready (rs := [18]) (by kernel_rfl) (by simp) ?_
        refine AllReadyH.cons (o := ⟨none, _, _, _, _, _⟩) rfl (fun K hK => ?_) AllReadyH.nil
        refine step_store_blk2 (by kernel_rfl) 26 _ _ rfl BQ (capC k0 k1 n2 n3 n4 (.slice an P.length cn) k5) (capC ⟨#[]⟩ ⟨#[]⟩ 0 0 0 (.slice none 0 0) ⟨#[]⟩) 26 HLZ.out infoCap rfl (capC_one _ _ _ _ _ _ _ rfl) rfl rfl ?_
        intro V3 hb3 hg3
        have HB9 := hb3
        have HR9 := Lib.hid (HRA.out.kept hg3.out (fun q hq e => HNQ.out q hq (Option.some.inj e)))
        have HS9 := Lib.hid (grown_into hS hg3.out HBL.out)
        refine hK.out _ _ HS9.out (fun hS3 => ?_)
        clear hK hb3 hg3 hS hS3 HLZ HRA
        refine wpAnyH_done (by kernel_rfl) ?_ _
        have HG9 := Lib.hid (grown_trans HG2.out HS9.out)
        have HC9 := Lib.hid (HCC2.out.kept HS9.out (by simp))
        obtain ⟨T, hT, hcw⟩ := swrite_not V3 text k0 k1 n2 n3 n4 an cn P k5 N0 HR9.out.lies2 HPL.out HPZ.out z0 z1 z5 HRD.out HT5.out
        have HCW := Lib.hid hcw
        have hTb : (T.toList == text.toList) = false := by rw [beq_eq_false_iff_ne]; exact hT
        have hTc : ¬ T.toList = text.toList := hT
        clear hcw
        cases b2
        case false =>
          have HGX := HG9
          have HCX := HC9
          go_wp2_with (refine wpList_store_blk rfl 26 _ _ rfl C (capC ⟨#[]⟩ ⟨#[]⟩ 0 0 0 (.slice none 0 0) ⟨#[]⟩) (capC ⟨#[]⟩ ⟨#[]⟩ 0 0 0 (.slice none 0 0) ⟨#[]⟩) 26 HCX.out infoCap rfl capZ0_one rfl rfl ?_; intro wz hbz hgz)
          exact ⟨rfl, _, results_blk Tryz.results18 _ _ C 26 _ _ _ hbz.out Tryz.underlying26 rfl infoCap rfl rfl, rfl, grown_into HGX.out hgz.out HWC.out⟩
        cases b3
        case false =>
          have HGX := HG9
          have HCX := HC9
          go_wp2_with (refine wpList_store_blk rfl 26 _ _ rfl C (capC ⟨#[]⟩ ⟨#[]⟩ 0 0 0 (.slice none 0 0) ⟨#[]⟩) (capC ⟨#[]⟩ ⟨#[]⟩ 0 0 0 (.slice none 0 0) ⟨#[]⟩) 26 HCX.out infoCap rfl capZ0_one rfl rfl ?_; intro wz hbz hgz)
          exact ⟨rfl, _, results_blk Tryz.results18 _ _ C 26 _ _ _ hbz.out Tryz.underlying26 rfl infoCap rfl rfl, rfl, grown_into HGX.out hgz.out HWC.out⟩
        cases b4
        case false =>
          have HGX := HG9
          have HCX := HC9
          go_wp2_with (refine wpList_store_blk rfl 26 _ _ rfl C (capC ⟨#[]⟩ ⟨#[]⟩ 0 0 0 (.slice none 0 0) ⟨#[]⟩) (capC ⟨#[]⟩ ⟨#[]⟩ 0 0 0 (.slice none 0 0) ⟨#[]⟩) 26 HCX.out infoCap rfl capZ0_one rfl rfl ?_; intro wz hbz hgz)
          exact ⟨rfl, _, results_blk Tryz.results18 _ _ C 26 _ _ _ hbz.out Tryz.underlying26 rfl infoCap rfl rfl, rfl, grown_into HGX.out hgz.out HWC.out⟩
        have d0 : V3.cell? ⟨BQ, 0, none⟩ = some (.string k0) := HB9.out.cell rfl
        have d1 : V3.cell? ⟨BQ, 1, none⟩ = some (.string k1) := HB9.out.cell rfl
        have d2 : V3.cell? ⟨BQ, 2, none⟩ = some (.int .i64 n2) := HB9.out.cell rfl
        have d3 : V3.cell? ⟨BQ, 3, none⟩ = some (.int .i64 n3) := HB9.out.cell rfl
        have d4 : V3.cell? ⟨BQ, 4, none⟩ = some (.int .i64 n4) := HB9.out.cell rfl
        have d5 : V3.cell? ⟨BQ, 5, none⟩ = some (.slice an P.length cn) := HB9.out.cell rfl
        have d6 : V3.cell? ⟨BQ, 6, none⟩ = some (.string k5) := HB9.out.cell rfl
        go_wp2_with fail
        clear d0 d1 d2 d3 d4 d5 d6
        refine HCW.out.mono ?_
        rintro e wc ⟨rfl, hgc⟩
        have HGX := Lib.hid (grown_trans HG9.out hgc)
        have HCX := Lib.hid (HC9.out.kept hgc (by simp))
        clear hgc HCW
        go_wp2_with (refine wpList_store_blk rfl 26 _ _ rfl C (capC ⟨#[]⟩ ⟨#[]⟩ 0 0 0 (.slice none 0 0) ⟨#[]⟩) (capC ⟨#[]⟩ ⟨#[]⟩ 0 0 0 (.slice none 0 0) ⟨#[]⟩) 26 HCX.out infoCap rfl capZ0_one rfl rfl ?_; intro wz hbz hgz)
        exact ⟨rfl, _, results_blk Tryz.results18 _ _ C 26 _ _ _ hbz.out Tryz.underlying26 rfl infoCap rfl rfl, rfl, grown_into HGX.out hgz.out HWC.out⟩
  · skip
    go_simp
    obtain ⟨BQ, hBQ⟩ : ∃ x, V0.heap.size = x := ⟨_, rfl⟩
    obtain ⟨WA, hWA⟩ : ∃ x, V0.alloc (Obj.cells #[Value.string ⟨#[]⟩, .string ⟨#[]⟩, .int .i64 0, .int .i64 0, .int .i64 0, .slice none 0 0, .string ⟨#[]⟩] 26) = x := ⟨_, rfl⟩
    have HLZ := Lib.hid (show Blk WA BQ 26 (capC ⟨#[]⟩ ⟨#[]⟩ 0 0 0 (.slice none 0 0) ⟨#[]⟩) from by rw [← hWA, ← hBQ]; exact Blk.new V0 26 (capC ⟨#[]⟩ ⟨#[]⟩ 0 0 0 (.slice none 0 0) ⟨#[]⟩))
    have HBL := Lib.hid (show w2.heap.size ≤ BQ from by rw [← hBQ]; exact hS.size)
    have hga := (show V0.grownBy WA none from by rw [← hWA]; exact World.grownBy_alloc _ _ none)
    rw [hWA, hBQ]
    clear hWA hBQ
    have hS := grown_trans hS hga
    refine hK.out _ _ hS (fun hS => ?_)
    clear hK hga
    refine wpAnyH_ready (rs := [12]) (by kernel_rfl) (by simp) ?_
    refine AllReadyH.cons (o := ⟨some 56, _, _, _, _, _⟩) rfl (fun K hK => ?_) (AllReadyH.nil)
    · skip
      go_simp
      obtain ⟨VB, hVB⟩ : ∃ x, WA.alloc (Obj.cells #[] 9) = x := ⟨_, rfl⟩
      obtain ⟨GB, hGB⟩ : ∃ x, WA.heap.size = x := ⟨_, rfl⟩
      have hga := (show WA.grownBy VB none from by rw [← hVB]; exact World.grownBy_alloc _ _ none)
      have HRA := Lib.hid (show Row VB N0 (.slice (some ⟨GB, 0, none⟩) 0 0) (strs []) from by rw [← hVB, ← hGB]; exact Row.empty0 (by have := hS.size; have := HN0.out; omega) (by simp))
      have HNQ := Lib.hid (show ∀ q, (Value.slice (some ⟨GB, 0, none⟩) 0 0).ownBlock = some q → q ≠ BQ from fun q hq e => by have h1 := HLZ.out.lt; simp [Value.ownBlock] at hq; omega)
      have HLZ := Lib.hid (HLZ.out.kept hga (by simp))
      rw [hVB, hGB]
      clear hVB hGB
      have hS := grown_trans hS hga
      refine hK.out _ _ hS (fun hS => ?_)
      clear hK hga
      refine wpAnyH_ready (rs := [15]) (by kernel_rfl) (by simp) ?_
      refine AllReadyH.cons (o := ⟨some 59, _, _, _, _, _⟩) rfl (fun K hK => ?_) (AllReadyH.nil)
      · skip
        refine step_append_row2 rfl _ _ 22 rfl 9 i9 (.string ⟨#[]⟩) 16 Tryz.underlying22 hi9 hz0 hz1 hz2 rfl N0 (.slice (some ⟨GB, 0, none⟩) 0 0) (strs []) rfl HRA.out ⟨g1, o1, none⟩ P.length (c1 - 1) (strs P) rfl (strs_len _) (fun j u hu => World.grownBy.cell hS (HLP.out j u hu) (by simp)) (strs_one _) (by rw [strs_len]; have := HPL.out; simp; unfold maxLen; omega) (by rw [strs_len]; have := HPL.out; simp; omega) (by have := hS.size; have := HN0.out; omega) ?_
        intro v9 VC HR2 HG2 HO2
        have HRA2 := Lib.hid (show Row VC N0 v9 (strs P) from HR2.out)
        have hS2 := grown_own hS HG2.out (fun q hq => by have := (HRA.out.lt q hq).1; have := HN0.out; omega)
        have HLZ2 := Lib.hid (HLZ.out.kept HG2.out (fun e => HNQ.out BQ e.symm rfl))
        have HNQ2 := Lib.hid (show ∀ q, v9.ownBlock = some q → q ≠ BQ from fun q hq e => by
          rcases HO2.out q hq with h1 | h1
          · exact HNQ.out q h1 e
          · have h2 := HLZ.out.lt; omega)
        clear HLZ HNQ
        have HLZ := HLZ2
        have HNQ := HNQ2
        clear HLZ2 HNQ2
        clear HR2 HG2 HO2 HRA
        have HRA := HRA2
        obtain ⟨an, cn, hv9, -⟩ := (show Row VC N0 v9 (strs P) from HRA.out).lies
        subst hv9
        clear HRA2
        have hS := hS2
        clear hS2
        refine hK.out _ _ hS (fun hS => ?_)
        clear hK
        refine wpAnyH_take (i := 16) (oi := ⟨some 60, _, _, _, _, _⟩) (v := (.agg (capC k0 k1 n2 n3 n4 (.slice an P.length cn) k5).toArray)) rfl (by kernel_rfl) (by kernel_rfl) (by kernel_rfl) (fun _ _ _ h => h) (Or.inl ⟨by kernel_rfl, fun w' hSw => ?_⟩) hS ?_
        · go_simp
          all_goals first | rfl | (simp [*]; done)
        simp only [Act.put, List.setIfInBounds_toArray, List.set_cons_zero, List.set_cons_succ]
        refine wpAnyH_ready (rs := [18]) (by kernel_rfl) (by simp) ?_
        refine AllReadyH.cons (o := ⟨none, _, _, _, _, _⟩) rfl (fun K hK => ?_) AllReadyH.nil
        refine step_store_blk2 (by kernel_rfl) 26 _ _ rfl BQ (capC k0 k1 n2 n3 n4 (.slice an P.length cn) k5) (capC ⟨#[]⟩ ⟨#[]⟩ 0 0 0 (.slice none 0 0) ⟨#[]⟩) 26 HLZ.out infoCap rfl (capC_one _ _ _ _ _ _ _ rfl) rfl rfl ?_
        intro V3 hb3 hg3
        have HB9 := hb3
        have HR9 := Lib.hid (HRA.out.kept hg3.out (fun q hq e => HNQ.out q hq (Option.some.inj e)))
        have HS9 := Lib.hid (grown_into hS hg3.out HBL.out)
        refine hK.out _ _ HS9.out (fun hS3 => ?_)
        clear hK hb3 hg3 hS hS3 HLZ HRA
        refine wpAnyH_done (by kernel_rfl) ?_ _
        have HG9 := Lib.hid (grown_trans HG2.out HS9.out)
        have HC9 := Lib.hid (HCC2.out.kept HS9.out (by simp))
        obtain ⟨T, hT, hcw⟩ := swrite_not V3 text k0 k1 n2 n3 n4 an cn P k5 N0 HR9.out.lies2 HPL.out HPZ.out z0 z1 z5 HRD.out HT5.out
        have HCW := Lib.hid hcw
        have hTb : (T.toList == text.toList) = false := by rw [beq_eq_false_iff_ne]; exact hT
        have hTc : ¬ T.toList = text.toList := hT
        clear hcw
        cases b2
        case false =>
          have HGX := HG9
          have HCX := HC9
          go_wp2_with (refine wpList_store_blk rfl 26 _ _ rfl C (capC ⟨#[]⟩ ⟨#[]⟩ 0 0 0 (.slice none 0 0) ⟨#[]⟩) (capC ⟨#[]⟩ ⟨#[]⟩ 0 0 0 (.slice none 0 0) ⟨#[]⟩) 26 HCX.out infoCap rfl capZ0_one rfl rfl ?_; intro wz hbz hgz)
          exact ⟨rfl, _, results_blk Tryz.results18 _ _ C 26 _ _ _ hbz.out Tryz.underlying26 rfl infoCap rfl rfl, rfl, grown_into HGX.out hgz.out HWC.out⟩
        cases b3
        case false =>
          have HGX := HG9
          have HCX := HC9
          go_wp2_with (refine wpList_store_blk rfl 26 _ _ rfl C (capC ⟨#[]⟩ ⟨#[]⟩ 0 0 0 (.slice none 0 0) ⟨#[]⟩) (capC ⟨#[]⟩ ⟨#[]⟩ 0 0 0 (.slice none 0 0) ⟨#[]⟩) 26 HCX.out infoCap rfl capZ0_one rfl rfl ?_; intro wz hbz hgz)
          exact ⟨rfl, _, results_blk Tryz.results18 _ _ C 26 _ _ _ hbz.out Tryz.underlying26 rfl infoCap rfl rfl, rfl, grown_into HGX.out hgz.out HWC.out⟩
        cases b4
        case false =>
          have HGX := HG9
          have HCX := HC9
          go_wp2_with (refine wpList_store_blk rfl 26 _ _ rfl C (capC ⟨#[]⟩ ⟨#[]⟩ 0 0 0 (.slice none 0 0) ⟨#[]⟩) (capC ⟨#[]⟩ ⟨#[]⟩ 0 0 0 (.slice none 0 0) ⟨#[]⟩) 26 HCX.out infoCap rfl capZ0_one rfl rfl ?_; intro wz hbz hgz)
          exact ⟨rfl, _, results_blk Tryz.results18 _ _ C 26 _ _ _ hbz.out Tryz.underlying26 rfl infoCap rfl rfl, rfl, grown_into HGX.out hgz.out HWC.out⟩
        have d0 : V3.cell? ⟨BQ, 0, none⟩ = some (.string k0) := HB9.out.cell rfl
        have d1 : V3.cell? ⟨BQ, 1, none⟩ = some (.string k1) := HB9.out.cell rfl
        have d2 : V3.cell? ⟨BQ, 2, none⟩ = some (.int .i64 n2) := HB9.out.cell rfl
        have d3 : V3.cell? ⟨BQ, 3, none⟩ = some (.int .i64 n3) := HB9.out.cell rfl
        have d4 : V3.cell? ⟨BQ, 4, none⟩ = some (.int .i64 n4) := HB9.out.cell rfl
        have d5 : V3.cell? ⟨BQ, 5, none⟩ = some (.slice an P.length cn) := HB9.out.cell rfl
        have d6 : V3.cell? ⟨BQ, 6, none⟩ = some (.string k5) := HB9.out.cell rfl
        go_wp2_with fail
        clear d0 d1 d2 d3 d4 d5 d6
        refine HCW.out.mono ?_
        rintro e wc ⟨rfl, hgc⟩
        have HGX := Lib.hid (grown_trans HG9.out hgc)
        have HCX := Lib.hid (HC9.out.kept hgc (by simp))
        clear hgc HCW
        go_wp2_with (refine wpList_store_blk rfl 26 _ _ rfl C (capC ⟨#[]⟩ ⟨#[]⟩ 0 0 0 (.slice none 0 0) ⟨#[]⟩) (capC ⟨#[]⟩ ⟨#[]⟩ 0 0 0 (.slice none 0 0) ⟨#[]⟩) 26 HCX.out infoCap rfl capZ0_one rfl rfl ?_; intro wz hbz hgz)
        exact ⟨rfl, _, results_blk Tryz.results18 _ _ C 26 _ _ _ hbz.out Tryz.underlying26 rfl infoCap rfl rfl, rfl, grown_into HGX.out hgz.out HWC.out⟩

theorem sread_any (w : World) (text : ByteArray) (hs : text.size ≤ 1048576) {a b : ByteArray} {r f u : Int} {s : ByteArray} {t : Bool} {M : List ByteArray} (hx : ReadX text a b r f u s t M) :
    Calls Tryz.prog 18 #[.string text] w fun e w' => ∃ (an : Option Addr) (cn : Nat), e = .returned (.tuple #[.agg #[.string a, .string b, .int .i64 r, .int .i64 f, .int .i64 u, .slice an M.length cn, .string s], .bool t]) ∧ Row w' w.heap.size (.slice an M.length cn) (strs M) ∧ w.grownBy w' none := by
  rcases hx with ⟨run, frm, unt, rfl, rfl, rfl, hr, rfl⟩ | ⟨hr, rfl, rfl, rfl, rfl, rfl, rfl, rfl, rfl⟩
  · exact sread_yes w text a b run frm unt M s hs hr
  · refine (sread_no w text hs hr).mono ?_
    rintro e w' ⟨rfl, hg⟩
    exact ⟨none, 0, rfl, Row.nil _ _, hg⟩
end Go.Proofs.YtecekbhkombnnaaGreatDoor
