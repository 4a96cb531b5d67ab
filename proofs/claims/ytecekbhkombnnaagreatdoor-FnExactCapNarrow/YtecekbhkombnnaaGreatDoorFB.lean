/- Credentials narrowed, by the program. -/
import Derived.Test.YtecekbhkombnnaaGreatDoorFA
namespace Go.Proofs.YtecekbhkombnnaaGreatDoor
open Go.RowKit

set_option maxRecDepth 100000 in
set_option maxHeartbeats 16000000 in
theorem inar_any (w : World) (hT : Tabs w) (hE : ErrC w) (hP : Pow w) (tn sp : ByteArray) (run frm unt : Int) (x1 cp : Nat) (ls : List ByteArray) (se lim : ByteArray) (hx : Blk w x1 9 (strs ls)) (hn : ls.length ≤ 1048576) (hz : ∀ l ∈ ls, l.size ≤ 1048576) (h1 : tn.size ≤ 1048576) (h2 : sp.size ≤ 1048576) (h3 : se.size ≤ 1048576) (h4 : lim.size ≤ 1048576) :
    Calls Tryz.prog 10 #[.agg #[.string tn, .string sp, .int .i64 run, .int .i64 frm, .int .i64 unt, .slice (some ⟨x1, 0, none⟩) ls.length cp, .string se], .string lim] w fun e w' => NarR w tn sp run frm unt ls se lim e w' ∧ w.grownBy w' none := by
  obtain ⟨W, hW⟩ : ∃ W, (w.alloc (Obj.cells #[Value.string tn, .string sp, .int .i64 run, .int .i64 frm, .int .i64 unt, .slice (some ⟨x1, 0, none⟩) ls.length cp, .string se] 26)).alloc (Obj.cells #[Value.string ⟨#[]⟩, .string ⟨#[]⟩, .int .i64 0, .int .i64 0, .int .i64 0, .slice none 0 0, .string ⟨#[]⟩] 26) = W := ⟨_, rfl⟩
  obtain ⟨C, hC⟩ : ∃ x, w.heap.size + 1 = x := ⟨_, rfl⟩
  obtain ⟨B, hB⟩ : ∃ x, w.heap.size = x := ⟨_, rfl⟩
  have HG := Lib.hid (show w.grownBy W none from by rw [← hW]; exact grown_alloc (grown_alloc (grown_refl _ _) _) _)
  have HBB := Lib.hid (show Blk W B 26 [.string tn, .string sp, .int .i64 run, .int .i64 frm, .int .i64 unt, .slice (some ⟨x1, 0, none⟩) ls.length cp, .string se] from by rw [← hW, ← hB]; exact (Blk.new w 26 [.string tn, .string sp, .int .i64 run, .int .i64 frm, .int .i64 unt, .slice (some ⟨x1, 0, none⟩) ls.length cp, .string se]).alloc _)
  have HBC := Lib.hid (show Blk W C 26 (capC ⟨#[]⟩ ⟨#[]⟩ 0 0 0 (.slice none 0 0) ⟨#[]⟩) from by
    rw [← hW, ← hC]
    have := Blk.new (w.alloc (Obj.cells #[Value.string tn, .string sp, .int .i64 run, .int .i64 frm, .int .i64 unt, .slice (some ⟨x1, 0, none⟩) ls.length cp, .string se] 26)) 26 [.string ⟨#[]⟩, .string ⟨#[]⟩, .int .i64 0, .int .i64 0, .int .i64 0, .slice none 0 0, .string ⟨#[]⟩]
    rw [show (w.alloc (Obj.cells #[Value.string tn, .string sp, .int .i64 run, .int .i64 frm, .int .i64 unt, .slice (some ⟨x1, 0, none⟩) ls.length cp, .string se] 26)).heap.size = w.heap.size + 1 from by simp] at this
    exact this)
  have HNE := Lib.hid (show B < C ∧ w.heap.size ≤ C from ⟨by omega, by omega⟩)
  have HX := Lib.hid (fun (V : World) (hV : w.grownBy V none) => hx.kept hV (by simp))
  have HNO := Lib.hid (fun (V : World) (h : ¬ (CapP tn sp run frm unt ls se ∧ LimP lim ∧ ls.length < 4)) => show NarR w tn sp run frm unt ls se lim (.returned (.tuple #[.agg (capC ⟨#[]⟩ ⟨#[]⟩ 0 0 0 (.slice none 0 0) ⟨#[]⟩).toArray, .bool false])) V from .inr ⟨h, rfl⟩)
  have HYES := Lib.hid (fun (V : World) (h : CapP tn sp run frm unt ls se ∧ LimP lim ∧ ls.length < 4) (v : Value) (R : ByteArray) (hR : macB se lim = R) (hr : Row V w.heap.size v (strs (ls ++ [lim]))) => show NarR w tn sp run frm unt ls se lim (.returned (.tuple #[.agg (capC tn sp run frm unt v R).toArray, .bool true])) V from .inl ⟨h, v, by rw [hR], hr⟩)
  have HOK := Lib.hid (icap_any W tn sp run frm unt (some ⟨x1, 0, none⟩) cp ls se x1 (hx.kept HG.out (by simp)).lies hn hz h1 h2 h3 (hE.grown HG.out) (hP.grown HG.out))
  have HLI := Lib.hid (fun (V : World) (hV : w.grownBy V none) => ilimOk_any V lim h4 (hE.grown hV) (hP.grown hV))
  have HMC := Lib.hid (fun (V : World) (hV : w.grownBy V none) => imac_any V (hT.grown hV) se lim (by omega) (by omega))
  have HCP := Lib.hid (fun (V : World) (hV : w.grownBy V none) => show Calls Tryz.prog 27 #[.agg #[.string tn, .string sp, .int .i64 run, .int .i64 frm, .int .i64 unt, .slice (some ⟨x1, 0, none⟩) ls.length cp, .string se]] V (fun e w' => ∃ v, e = .returned (.agg #[.string tn, .string sp, .int .i64 run, .int .i64 frm, .int .i64 unt, v, .string se]) ∧ Row w' V.heap.size v (strs ls) ∧ V.grownBy w' none) from ccopied_any V tn sp run frm unt (some ⟨x1, 0, none⟩) cp ls se x1 (hx.kept hV (by simp)).lies hn hz h1 h2 h3)
  have HCL := Lib.hid (fun V => clone_any V lim h4)
  have HN := Lib.hid hn
  have HW := Lib.hid hW
  have HBE := Lib.hid hB
  have HCE := Lib.hid hC
  clear hW hB hC hx hz h1 h2 h3 h4 hn hT hE hP
  obtain ⟨i9, hi9, hz0, hz1, hz2⟩ := info_parts infoStr0
  go_enter Tryz.func10, Tryz.ntmps10
  go_wp2_with fail
  rw [HW.out, HCE.out, HBE.out]
  refine HOK.out.mono ?_
  rintro e w1 ⟨⟨b0, rfl, hb0⟩, hg1⟩
  have HQ0 := Lib.hid hb0
  have HBB1 := Lib.hid (HBB.out.kept hg1 (by simp))
  have HBC1 := Lib.hid (HBC.out.kept hg1 (by simp))
  have HG1 := Lib.hid (grown_trans HG.out hg1)
  clear hb0 hg1 HOK HBB HBC HG HW
  cases b0
  case false =>
    have HD := Lib.hid (fun (V : World) => HNO.out V (fun h => by have := HQ0.out.2 h.1; cases this))
    go_wp2_with (refine wpList_store_blk rfl 26 _ _ rfl C (capC ⟨#[]⟩ ⟨#[]⟩ 0 0 0 (.slice none 0 0) ⟨#[]⟩) (capC ⟨#[]⟩ ⟨#[]⟩ 0 0 0 (.slice none 0 0) ⟨#[]⟩) 26 HBC1.out infoCap rfl capZ0_one rfl rfl ?_; intro wz hbz hgz)
    exact ⟨rfl, _, results_blk Tryz.results10 _ _ C 26 _ _ _ hbz.out Tryz.underlying26 rfl infoCap rfl rfl, HD.out _, grown_into HG1.out hgz.out HNE.out.2⟩
  go_wp2_with fail
  refine (HLI.out w1 HG1.out).mono ?_
  rintro e w2 ⟨⟨b1, rfl, hb1⟩, hg2⟩
  have HQ1 := Lib.hid hb1
  have HBB2 := Lib.hid (HBB1.out.kept hg2 (by simp))
  have HBC2 := Lib.hid (HBC1.out.kept hg2 (by simp))
  have HG2 := Lib.hid (grown_trans HG1.out hg2)
  clear hb1 hg2 HLI HBB1 HBC1 HG1
  cases b1
  case false =>
    have HD := Lib.hid (fun (V : World) => HNO.out V (fun h => by have := HQ1.out.2 h.2.1; cases this))
    go_wp2_with (refine wpList_store_blk rfl 26 _ _ rfl C (capC ⟨#[]⟩ ⟨#[]⟩ 0 0 0 (.slice none 0 0) ⟨#[]⟩) (capC ⟨#[]⟩ ⟨#[]⟩ 0 0 0 (.slice none 0 0) ⟨#[]⟩) 26 HBC2.out infoCap rfl capZ0_one rfl rfl ?_; intro wz hbz hgz)
    exact ⟨rfl, _, results_blk Tryz.results10 _ _ C 26 _ _ _ hbz.out Tryz.underlying26 rfl infoCap rfl rfl, HD.out _, grown_into HG2.out hgz.out HNE.out.2⟩
  have k5 : w2.cell? ⟨B, 5, none⟩ = some (.slice (some ⟨x1, 0, none⟩) ls.length cp) := HBB2.out.cell rfl
  by_cases h44 : (ls.length : Int) = 4
  case pos =>
    have h44c : ((ls.length : Int) == 4) = true := by rw [beq_iff_eq]; exact h44
    have HD := Lib.hid (fun (V : World) => HNO.out V (fun h => by have := h.2.2; omega))
    go_wp2_with (refine wpList_store_blk rfl 26 _ _ rfl C (capC ⟨#[]⟩ ⟨#[]⟩ 0 0 0 (.slice none 0 0) ⟨#[]⟩) (capC ⟨#[]⟩ ⟨#[]⟩ 0 0 0 (.slice none 0 0) ⟨#[]⟩) 26 HBC2.out infoCap rfl capZ0_one rfl rfl ?_; intro wz hbz hgz)
    exact ⟨rfl, _, results_blk Tryz.results10 _ _ C 26 _ _ _ hbz.out Tryz.underlying26 rfl infoCap rfl rfl, HD.out _, grown_into HG2.out hgz.out HNE.out.2⟩
  have h44b : decide ((ls.length : Int) = 4) = false := decide_eq_false h44
  have h44c : ((ls.length : Int) == 4) = false := by rw [beq_eq_false_iff_ne]; exact h44
  have HPP := Lib.hid (show CapP tn sp run frm unt ls se ∧ LimP lim ∧ ls.length < 4 from by
    have h9 := HQ0.out.1 (by first | trivial | rfl)
    exact ⟨h9, HQ1.out.1 (by first | trivial | rfl), by have := h9.2.2.1; omega⟩)
  clear k5
  have c0 : w2.cell? ⟨B, 0, none⟩ = some (.string tn) := HBB2.out.cell rfl
  have c1 : w2.cell? ⟨B, 1, none⟩ = some (.string sp) := HBB2.out.cell rfl
  have c2 : w2.cell? ⟨B, 2, none⟩ = some (.int .i64 run) := HBB2.out.cell rfl
  have c3 : w2.cell? ⟨B, 3, none⟩ = some (.int .i64 frm) := HBB2.out.cell rfl
  have c4 : w2.cell? ⟨B, 4, none⟩ = some (.int .i64 unt) := HBB2.out.cell rfl
  have c5 : w2.cell? ⟨B, 5, none⟩ = some (.slice (some ⟨x1, 0, none⟩) ls.length cp) := HBB2.out.cell rfl
  have c6 : w2.cell? ⟨B, 6, none⟩ = some (.string se) := HBB2.out.cell rfl
  go_wp2_with fail
  clear c0 c1 c2 c3 c4 c5 c6
  refine (HCP.out w2 HG2.out).mono ?_
  rintro e w3 ⟨v, rfl, hr3, hg3⟩
  have HR3 := Lib.hid (hr3.base (b' := C + 1) HBC2.out.lt)
  obtain ⟨an, cn, hv, -⟩ := hr3.lies
  subst hv
  have HBB3 := Lib.hid (HBB2.out.kept hg3 (by simp))
  have HBC3 := Lib.hid (HBC2.out.kept hg3 (by simp))
  have HG3 := Lib.hid (grown_trans HG2.out hg3)
  clear hr3 hg3 HCP
  obtain ⟨V0, hV⟩ : ∃ x, w3.alloc (Obj.cells #[Value.string tn, .string sp, .int .i64 run, .int .i64 frm, .int .i64 unt, .slice an ls.length cn, .string se] 26) = x := ⟨_, rfl⟩
  obtain ⟨D, hD⟩ : ∃ x, w3.heap.size = x := ⟨_, rfl⟩
  have HBD := Lib.hid (show Blk V0 D 26 [.string tn, .string sp, .int .i64 run, .int .i64 frm, .int .i64 unt, .slice an ls.length cn, .string se] from by rw [← hV, ← hD]; exact Blk.new w3 26 _)
  have HGV := Lib.hid (show w.grownBy V0 none from by rw [← hV]; exact grown_alloc HG3.out _)
  have HVB := Lib.hid (show Blk V0 B 26 [.string tn, .string sp, .int .i64 run, .int .i64 frm, .int .i64 unt, .slice (some ⟨x1, 0, none⟩) ls.length cp, .string se] from by rw [← hV]; exact HBB3.out.alloc _)
  have HVC := Lib.hid (show Blk V0 C 26 (capC ⟨#[]⟩ ⟨#[]⟩ 0 0 0 (.slice none 0 0) ⟨#[]⟩) from by rw [← hV]; exact HBC3.out.alloc _)
  have HRV := Lib.hid (show Row V0 (C + 1) (.slice an ls.length cn) (strs ls) from by rw [← hV]; exact HR3.out.alloc _)
  have HQ2 := Lib.hid (show ∀ q, (Value.slice an ls.length cn).ownBlock = some q → C + 1 ≤ q ∧ q < D from fun q hq => by rw [← hD]; exact HR3.out.lt q hq)
  have HLT := Lib.hid (show B < D ∧ C < D ∧ w.heap.size ≤ D from by
    have a1 := HBB3.out.lt
    have a2 := HBC3.out.lt
    have a3 := HG3.out.size
    omega)
  have HVE := Lib.hid hV
  have HDE := Lib.hid hD
  clear hV hD HBB3 HBC3 HR3 HG3
  have d5 : V0.cell? ⟨D, 5, none⟩ = some (.slice an ls.length cn) := HBD.out.cell rfl
  go_wp2_with fail
  rw [HVE.out, HDE.out]
  go_region_law (first
    | (go_simp; go_at_call 28; (with_reducible refine (HCL.out _).mono ?_); rintro e w4 ⟨rfl, hg4⟩; have YBD := Lib.hid (HBD.out.drew.kept hg4 (by simp)); have YGV := Lib.hid (grown_trans (grown_drew HGV.out) hg4); have YBB := Lib.hid (HVB.out.drew.kept hg4 (by simp)); have YBC := Lib.hid (HVC.out.drew.kept hg4 (by simp)); have YR := Lib.hid (HRV.out.drew.kept hg4 (by simp)); have hsz4 : D < w4.heap.size := YBD.out.lt; have d6 : w4.cell? ⟨D, 5, none⟩ = some (.slice an ls.length cn) := YBD.out.cell rfl; have d7 : (w4.alloc (Obj.cells #[Value.string lim] 9)).cell? ⟨D, 5, none⟩ = some (.slice an ls.length cn) := (YBD.out.alloc _).cell rfl; clear hg4)
    | (refine step_append_row2 rfl _ _ 22 rfl 9 i9 (.string ⟨#[]⟩) 16 Tryz.underlying22 hi9 hz0 hz1 hz2 rfl (C + 1) (.slice an ls.length cn) (strs ls) rfl (YR.out.alloc _) ⟨_, 0, none⟩ 1 1 (strs [lim]) rfl rfl (news_new _ 9 (strs [lim])) (strs_one _) (by rw [strs_len]; have := HN.out; unfold maxLen; omega) (by rw [strs_len]; have := HN.out; omega) (by have h1 := HLT.out; simp; omega) ?_; intro v5 w5 HR5 HG5 HO5; have hr5 := HR5.out; rw [show strs ls ++ strs [lim] = strs (ls ++ [lim]) from by simp [strs]] at hr5; have HR5' := Lib.hid hr5; have ZBD := Lib.hid ((YBD.out.alloc _).kept HG5.out (fun e => by have := (HQ2.out _ e.symm).2; omega)); have ZBB := Lib.hid ((YBB.out.alloc _).kept HG5.out (fun e => by have h1 := (HQ2.out _ e.symm).1; have h2 := HNE.out; omega)); have ZBC := Lib.hid ((YBC.out.alloc _).kept HG5.out (fun e => by have h1 := (HQ2.out _ e.symm).1; omega)); have ZGV := Lib.hid (grown_own (grown_alloc YGV.out _) HG5.out (fun q hq => by have h1 := (HQ2.out q hq).1; have h2 := HNE.out; omega)); obtain ⟨an5, cn5, rfl, -⟩ := hr5.lies; have q5 : w5.cell? ⟨D, 5, none⟩ = some (.slice an ls.length cn) := ZBD.out.cell rfl; have f5 := ZBD.out.frozen 5; clear hr5))
  all_goals
    have hlen : (ls ++ [lim]).length = ls.length + 1 := by simp
    have hr6 := HR5'.out
    have ho6 := HO5.out
    rw [hlen] at hr6 ho6
    have hgD := grown_set (grown_refl w5 (some D)) 5 (.slice an5 (ls.length + 1) cn5)
    have HOD := Lib.hid (show ∀ q, (Value.slice an5 (ls.length + 1) cn5).ownBlock = some q → C + 1 ≤ q ∧ q ≠ D from fun q hq => ⟨(hr6.lt q hq).1, fun e => by
      rcases ho6 q hq with h1 | h1
      · have h2 := (HQ2.out q h1).2
        omega
      · simp at h1
        omega⟩)
    have HRW := Lib.hid (hr6.kept hgD (fun k hk e => (HOD.out k hk).2 (Option.some.inj e)))
    have HG8 := Lib.hid (grown_into ZGV.out hgD HLT.out.2.2)
    have HBD8 := Lib.hid (show Blk (w5.setCell ⟨D, 5, none⟩ (.slice an5 (ls.length + 1) cn5)) D 26 (capC tn sp run frm unt (.slice an5 (ls.length + 1) cn5) se) from ZBD.out.set 5 (.slice an5 (ls.length + 1) cn5))
    have HBC8 := Lib.hid (ZBC.out.kept hgD (by have := HLT.out; simp; omega))
    have HBB8 := Lib.hid (ZBB.out.kept hgD (by have := HLT.out; simp; omega))
    obtain ⟨W6, hW6⟩ : ∃ x, w5.setCell ⟨D, 5, none⟩ (.slice an5 (ls.length + 1) cn5) = x := ⟨_, rfl⟩
    rw [hW6] at HRW HG8 HBD8 HBC8 HBB8 ⊢
    have HSZ6 := Lib.hid HG8.out.size
    clear hW6 hgD hr6 ho6 hlen HO5 HR5 HR5' HG5 ZBD ZBC ZBB ZGV q5 f5 d5 d6 d7
    have s6 : W6.cell? ⟨B, 6, none⟩ = some (.string se) := HBB8.out.cell rfl
    go_wp2_with fail
    clear s6
    refine (HMC.out W6 HG8.out).mono ?_
    obtain ⟨R, hR⟩ : ∃ R, macB se lim = R := ⟨_, rfl⟩
    rw [hR]
    have HRE := Lib.hid hR
    clear hR
    rintro e w9 ⟨rfl, hg9⟩
    have HBD9 := Lib.hid (HBD8.out.kept hg9 (by simp))
    have HBC9 := Lib.hid (HBC8.out.kept hg9 (by simp))
    have HR9 := Lib.hid (HRW.out.kept hg9 (by simp))
    have HG9 := Lib.hid (grown_trans HG8.out hg9)
    clear hg9
    have q6 : w9.cell? ⟨D, 6, none⟩ = some (.string se) := HBD9.out.cell rfl
    have f6 := HBD9.out.frozen 6
    have HGA := Lib.hid (show w.grownBy (w9.setCell ⟨D, 6, none⟩ (.string R)) none from grown_into HG9.out (grown_set (grown_refl w9 (some D)) 6 _) HLT.out.2.2)
    have HBDA := Lib.hid (show Blk (w9.setCell ⟨D, 6, none⟩ (.string R)) D 26 (capC tn sp run frm unt (.slice an5 (ls.length + 1) cn5) R) from HBD9.out.set 6 (.string R))
    have HBCA := Lib.hid (HBC9.out.kept (grown_set (grown_refl w9 (some D)) 6 (.string R)) (by have := HLT.out; simp; omega))
    have HRA := Lib.hid (HR9.out.kept (grown_set (grown_refl w9 (some D)) 6 (.string R)) (fun k hk e => (HOD.out k hk).2 (Option.some.inj e)))
    obtain ⟨WA, hWA⟩ : ∃ x, w9.setCell ⟨D, 6, none⟩ (.string R) = x := ⟨_, rfl⟩
    rw [hWA] at HGA HBDA HBCA HRA
    have HWA := Lib.hid hWA
    clear hWA
    go_wp2_with (first
      | (rw [HWA.out]; refine wpList_load_blk rfl 26 _ rfl D (capC tn sp run frm unt (.slice an5 (ls.length + 1) cn5) R) 26 HBDA.out _ Tryz.underlying26 rfl infoCap rfl ?_)
      | (refine wpList_store_blk rfl 26 _ _ rfl C (capC tn sp run frm unt (.slice an5 (ls.length + 1) cn5) R) (capC ⟨#[]⟩ ⟨#[]⟩ 0 0 0 (.slice none 0 0) ⟨#[]⟩) 26 HBCA.out infoCap rfl (capC_one _ _ _ _ _ _ _ rfl) rfl rfl ?_; intro wz hbz hgz))
    exact ⟨rfl, _, results_blk Tryz.results10 _ _ C 26 _ _ _ hbz.out Tryz.underlying26 rfl infoCap rfl rfl, HYES.out _ HPP.out _ R HRE.out ((HRA.out.kept hgz.out (fun k hk e => by have h1 := (HOD.out k hk).1; have h2 := Option.some.inj e; omega)).base (by have := HNE.out; omega)), grown_into HGA.out hgz.out HNE.out.2⟩
end Go.Proofs.YtecekbhkombnnaaGreatDoor
