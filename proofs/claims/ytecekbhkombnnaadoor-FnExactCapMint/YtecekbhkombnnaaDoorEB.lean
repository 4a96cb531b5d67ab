/- Credentials made, by both. -/
import Derived.Test.YtecekbhkombnnaaDoorCU
import Derived.Test.YtecekbhkombnnaaDoorEA
namespace Go.Proofs.YtecekbhkombnnaaDoor
open Go.RowKit

theorem capZ_one : ∀ x ∈ (capC ⟨#[]⟩ ⟨#[]⟩ 0 0 0 (.slice none 0 0) ⟨#[]⟩), x.oneCell' = true := capC_one _ _ _ _ _ _ _ rfl
/-- a credential that is made, or none -/
def MintR (w : World) (key tn sp : ByteArray) (run frm unt : Int) (e : Ending) (w' : World) : Prop :=
  (RunP tn sp run ∧ TickP frm unt ∧ ∃ v, e = .returned (.tuple #[.agg (capC tn sp run frm unt v (macB key (headC tn sp run.toNat frm.toNat unt.toNat))).toArray, .bool true]) ∧ Row w' w.heap.size v (strs [])) ∨
  (¬ (RunP tn sp run ∧ TickP frm unt) ∧ e = .returned (.tuple #[.agg (capC ⟨#[]⟩ ⟨#[]⟩ 0 0 0 (.slice none 0 0) ⟨#[]⟩).toArray, .bool false]))
theorem mint_nat {tn sp : ByteArray} {run frm unt : Int} (h1 : RunP tn sp run) (h2 : TickP frm unt) : ∃ r f u : Nat, run = r ∧ frm = f ∧ unt = u ∧ r ≤ 999999 ∧ f ≤ 999999 ∧ u ≤ 999999 := by
  have a1 := h1.2.2.1
  have a2 := h1.2.2.2
  have a3 := h2.1.1
  have a4 := h2.1.2
  have a5 := h2.2.1
  have a6 := h2.2.2
  exact ⟨run.toNat, frm.toNat, unt.toNat, by omega, by omega, by omega, by omega, by omega, by omega⟩

set_option maxRecDepth 100000 in
set_option maxHeartbeats 16000000 in
theorem smint_any (w : World) (key tn sp : ByteArray) (run frm unt : Int) (hk : key.size ≤ 1048576) (h1 : tn.size ≤ 1048576) (h2 : sp.size ≤ 1048576) :
    Calls Tryd.prog 5 #[.string key, .string tn, .string sp, .int .i64 run, .int .i64 frm, .int .i64 unt] w fun e w' => MintR w key tn sp run frm unt e w' ∧ w.grownBy w' none := by
  obtain ⟨W, hW⟩ : ∃ W, (w.alloc (Obj.cells #[Value.string ⟨#[]⟩, .string ⟨#[]⟩, .int .i64 0, .int .i64 0, .int .i64 0, .slice none 0 0, .string ⟨#[]⟩] 24)).alloc (Obj.cells #[Value.string tn, .string sp, .int .i64 run, .int .i64 frm, .int .i64 unt, .slice none 0 0, .string ⟨#[]⟩] 24) = W := ⟨_, rfl⟩
  obtain ⟨B, hB⟩ : ∃ x, w.heap.size + 1 = x := ⟨_, rfl⟩
  obtain ⟨C, hC⟩ : ∃ x, w.heap.size = x := ⟨_, rfl⟩
  have HG := Lib.hid (show w.grownBy W none from by rw [← hW]; exact grown_alloc (grown_alloc (grown_refl _ _) _) _)
  have HBC := Lib.hid (show Blk W C 24 (capC ⟨#[]⟩ ⟨#[]⟩ 0 0 0 (.slice none 0 0) ⟨#[]⟩) from by rw [← hW, ← hC]; exact (Blk.new w 24 [.string ⟨#[]⟩, .string ⟨#[]⟩, .int .i64 0, .int .i64 0, .int .i64 0, .slice none 0 0, .string ⟨#[]⟩]).alloc _)
  have HBB := Lib.hid (show Blk W B 24 [.string tn, .string sp, .int .i64 run, .int .i64 frm, .int .i64 unt, .slice none 0 0, .string ⟨#[]⟩] from by
    rw [← hW, ← hB]
    have := Blk.new (w.alloc (Obj.cells #[Value.string ⟨#[]⟩, .string ⟨#[]⟩, .int .i64 0, .int .i64 0, .int .i64 0, .slice none 0 0, .string ⟨#[]⟩] 24)) 24 [.string tn, .string sp, .int .i64 run, .int .i64 frm, .int .i64 unt, .slice none 0 0, .string ⟨#[]⟩]
    rw [show (w.alloc (Obj.cells #[Value.string ⟨#[]⟩, .string ⟨#[]⟩, .int .i64 0, .int .i64 0, .int .i64 0, .slice none 0 0, .string ⟨#[]⟩] 24)).heap.size = w.heap.size + 1 from by simp] at this
    exact this)
  have HNE := Lib.hid (show C < B ∧ w.heap.size ≤ C ∧ w.heap.size ≤ B from ⟨by omega, by omega, by omega⟩)
  have HNO := Lib.hid (fun (V : World) (h : ¬ (RunP tn sp run ∧ TickP frm unt)) => show MintR w key tn sp run frm unt (.returned (.tuple #[.agg (capC ⟨#[]⟩ ⟨#[]⟩ 0 0 0 (.slice none 0 0) ⟨#[]⟩).toArray, .bool false])) V from .inr ⟨h, rfl⟩)
  have HYES := Lib.hid (fun (V : World) (ha : RunP tn sp run) (hb : TickP frm unt) (v : Value) (R : ByteArray) (hR : macB key (headC tn sp run.toNat frm.toNat unt.toNat) = R) (hr : Row V w.heap.size v (strs [])) => show MintR w key tn sp run frm unt (.returned (.tuple #[.agg (capC tn sp run frm unt v R).toArray, .bool true])) V from .inl ⟨ha, hb, v, by rw [hR], hr⟩)
  have HN1 := Lib.hid (fun V => nameOkS_any V tn h1)
  have HN2 := Lib.hid (fun V => nameOkS_any V sp h2)
  have HSE := Lib.hid (fun (V : World) (ha : RunP tn sp run) (hb : TickP frm unt) => show Calls Tryd.prog 15 #[.string key, .agg #[.string tn, .string sp, .int .i64 run, .int .i64 frm, .int .i64 unt, .slice none 0 0, .string ⟨#[]⟩]] V (fun e w' => e = .returned (.string (macB key (headC tn sp run.toNat frm.toNat unt.toNat))) ∧ V.grownBy w' none) from by
    obtain ⟨r, f, u, rfl, rfl, rfl, k1, k2, k3⟩ := mint_nat ha hb
    exact sright_any V key tn sp r f u none 0 [] ⟨#[]⟩ 0 (.inl rfl) (by simp) (fun l h => by cases h) hk h1 h2 k1 k2 k3)
  have HW := Lib.hid hW
  have HBE := Lib.hid hB
  have HCE := Lib.hid hC
  clear hW hB hC h1 h2 hk
  go_enter Tryd.func5, Tryd.ntmps5
  go_wp2_with fail
  rw [HW.out, HBE.out, HCE.out]
  refine (HN1.out W).mono ?_
  rintro e wx ⟨⟨b0, rfl, hb0⟩, hw⟩
  have hw := hw.symm
  subst hw
  have HQ0 := Lib.hid hb0
  clear hb0
  cases b0
  case false =>
    have HD := Lib.hid (fun (V : World) => HNO.out V (fun h => by have := HQ0.out.2 h.1.1; cases this))
    go_wp2_with (refine wpList_store_blk rfl 24 _ _ rfl C (capC ⟨#[]⟩ ⟨#[]⟩ 0 0 0 (.slice none 0 0) ⟨#[]⟩) (capC ⟨#[]⟩ ⟨#[]⟩ 0 0 0 (.slice none 0 0) ⟨#[]⟩) 24 HBC.out infoCap rfl capZ_one rfl rfl ?_; intro wz hbz hgz)
    exact ⟨rfl, _, results_blk Tryd.results5 _ _ C 24 _ _ _ hbz.out Tryd.underlying24 rfl infoCap rfl rfl, HD.out _, grown_into HG.out hgz.out HNE.out.2.1⟩
  go_wp2_with fail
  refine (HN2.out W).mono ?_
  rintro e wx ⟨⟨b1, rfl, hb1⟩, hw⟩
  have hw := hw.symm
  subst hw
  have HQ1 := Lib.hid hb1
  clear hb1
  cases b1
  case false =>
    have HD := Lib.hid (fun (V : World) => HNO.out V (fun h => by have := HQ1.out.2 h.1.2.1; cases this))
    go_wp2_with (refine wpList_store_blk rfl 24 _ _ rfl C (capC ⟨#[]⟩ ⟨#[]⟩ 0 0 0 (.slice none 0 0) ⟨#[]⟩) (capC ⟨#[]⟩ ⟨#[]⟩ 0 0 0 (.slice none 0 0) ⟨#[]⟩) 24 HBC.out infoCap rfl capZ_one rfl rfl ?_; intro wz hbz hgz)
    exact ⟨rfl, _, results_blk Tryd.results5 _ _ C 24 _ _ _ hbz.out Tryd.underlying24 rfl infoCap rfl rfl, HD.out _, grown_into HG.out hgz.out HNE.out.2.1⟩
  go_wp2_with fail
  refine (l1in_any W run 1 9999).mono ?_
  rintro e wx ⟨⟨b2, rfl, hb2⟩, hw⟩
  have hw := hw.symm
  subst hw
  have HQ2 := Lib.hid hb2
  clear hb2
  cases b2
  case false =>
    have HD := Lib.hid (fun (V : World) => HNO.out V (fun h => by have := HQ2.out.2 h.1.2.2; cases this))
    go_wp2_with (refine wpList_store_blk rfl 24 _ _ rfl C (capC ⟨#[]⟩ ⟨#[]⟩ 0 0 0 (.slice none 0 0) ⟨#[]⟩) (capC ⟨#[]⟩ ⟨#[]⟩ 0 0 0 (.slice none 0 0) ⟨#[]⟩) 24 HBC.out infoCap rfl capZ_one rfl rfl ?_; intro wz hbz hgz)
    exact ⟨rfl, _, results_blk Tryd.results5 _ _ C 24 _ _ _ hbz.out Tryd.underlying24 rfl infoCap rfl rfl, HD.out _, grown_into HG.out hgz.out HNE.out.2.1⟩
  go_wp2_with fail
  refine (l1in_any W frm 0 999999).mono ?_
  rintro e wx ⟨⟨b3, rfl, hb3⟩, hw⟩
  have hw := hw.symm
  subst hw
  have HQ3 := Lib.hid hb3
  clear hb3
  cases b3
  case false =>
    have HD := Lib.hid (fun (V : World) => HNO.out V (fun h => by have := HQ3.out.2 h.2.1; cases this))
    go_wp2_with (refine wpList_store_blk rfl 24 _ _ rfl C (capC ⟨#[]⟩ ⟨#[]⟩ 0 0 0 (.slice none 0 0) ⟨#[]⟩) (capC ⟨#[]⟩ ⟨#[]⟩ 0 0 0 (.slice none 0 0) ⟨#[]⟩) 24 HBC.out infoCap rfl capZ_one rfl rfl ?_; intro wz hbz hgz)
    exact ⟨rfl, _, results_blk Tryd.results5 _ _ C 24 _ _ _ hbz.out Tryd.underlying24 rfl infoCap rfl rfl, HD.out _, grown_into HG.out hgz.out HNE.out.2.1⟩
  go_wp2_with fail
  refine (l1in_any W unt frm 999999).mono ?_
  rintro e wx ⟨⟨b4, rfl, hb4⟩, hw⟩
  have hw := hw.symm
  subst hw
  have HQ4 := Lib.hid hb4
  clear hb4
  cases b4
  case false =>
    have HD := Lib.hid (fun (V : World) => HNO.out V (fun h => by have := HQ4.out.2 h.2.2; cases this))
    go_wp2_with (refine wpList_store_blk rfl 24 _ _ rfl C (capC ⟨#[]⟩ ⟨#[]⟩ 0 0 0 (.slice none 0 0) ⟨#[]⟩) (capC ⟨#[]⟩ ⟨#[]⟩ 0 0 0 (.slice none 0 0) ⟨#[]⟩) 24 HBC.out infoCap rfl capZ_one rfl rfl ?_; intro wz hbz hgz)
    exact ⟨rfl, _, results_blk Tryd.results5 _ _ C 24 _ _ _ hbz.out Tryd.underlying24 rfl infoCap rfl rfl, HD.out _, grown_into HG.out hgz.out HNE.out.2.1⟩
  have HRP := Lib.hid (show RunP tn sp run from ⟨HQ0.out.1 (by first | trivial | rfl), HQ1.out.1 (by first | trivial | rfl), HQ2.out.1 (by first | trivial | rfl)⟩)
  have HTP := Lib.hid (show TickP frm unt from ⟨HQ3.out.1 (by first | trivial | rfl), HQ4.out.1 (by first | trivial | rfl)⟩)
  have c0 : W.cell? ⟨B, 0, none⟩ = some (.string tn) := HBB.out.cell rfl
  have c1 : W.cell? ⟨B, 1, none⟩ = some (.string sp) := HBB.out.cell rfl
  have c2 : W.cell? ⟨B, 2, none⟩ = some (.int .i64 run) := HBB.out.cell rfl
  have c3 : W.cell? ⟨B, 3, none⟩ = some (.int .i64 frm) := HBB.out.cell rfl
  have c4 : W.cell? ⟨B, 4, none⟩ = some (.int .i64 unt) := HBB.out.cell rfl
  have c5 : W.cell? ⟨B, 5, none⟩ = some (.slice none 0 0) := HBB.out.cell rfl
  have c6 : W.cell? ⟨B, 6, none⟩ = some (.string ⟨#[]⟩) := HBB.out.cell rfl
  go_wp2_with fail
  clear c0 c1 c2 c3 c4 c5 c6
  refine (HSE.out _ HRP.out HTP.out).mono ?_
  obtain ⟨R, hR⟩ : ∃ R, macB key (headC tn sp run.toNat frm.toNat unt.toNat) = R := ⟨_, rfl⟩
  rw [hR]
  have HRE := Lib.hid hR
  clear hR
  rintro e w6 ⟨rfl, hg6⟩
  have HBB6 := Lib.hid (HBB.out.kept hg6 (by simp))
  have HBC6 := Lib.hid (HBC.out.kept hg6 (by simp))
  have HG6 := Lib.hid (grown_trans HG.out hg6)
  clear hg6 HSE
  have q6 : w6.cell? ⟨B, 6, none⟩ = some (.string ⟨#[]⟩) := HBB6.out.cell rfl
  have f6 := HBB6.out.frozen 6
  have HG7 := Lib.hid (show w.grownBy (w6.setCell ⟨B, 6, none⟩ (.string R)) none from grown_into HG6.out (grown_set (grown_refl w6 (some B)) 6 _) HNE.out.2.2)
  have HBB7 := Lib.hid (show Blk (w6.setCell ⟨B, 6, none⟩ (.string R)) B 24 (capC tn sp run frm unt (.slice none 0 0) R) from HBB6.out.set 6 (.string R))
  have HBC7 := Lib.hid (HBC6.out.kept (grown_set (grown_refl w6 (some B)) 6 (.string R)) (by have := HNE.out; simp; omega))
  obtain ⟨W7, hW7⟩ : ∃ x, w6.setCell ⟨B, 6, none⟩ (.string R) = x := ⟨_, rfl⟩
  rw [hW7] at HG7 HBB7 HBC7
  have HW7 := Lib.hid hW7
  clear hW7
  go_wp2_with (first
    | (rw [HW7.out]; refine wpList_load_blk rfl 24 _ rfl B (capC tn sp run frm unt (.slice none 0 0) R) 24 HBB7.out _ Tryd.underlying24 rfl infoCap rfl ?_)
    | (refine wpList_store_blk rfl 24 _ _ rfl C (capC tn sp run frm unt (.slice none 0 0) R) (capC ⟨#[]⟩ ⟨#[]⟩ 0 0 0 (.slice none 0 0) ⟨#[]⟩) 24 HBC7.out infoCap rfl (capC_one _ _ _ _ _ _ _ rfl) rfl rfl ?_; intro wz hbz hgz))
  exact ⟨rfl, _, results_blk Tryd.results5 _ _ C 24 _ _ _ hbz.out Tryd.underlying24 rfl infoCap rfl rfl, HYES.out _ HRP.out HTP.out _ R HRE.out (Row.nil _ _), grown_into HG7.out hgz.out HNE.out.2.1⟩

set_option maxRecDepth 100000 in
set_option maxHeartbeats 16000000 in
theorem imint_any (w : World) (hT : Tabs w) (hP : Pow w) (key tn sp : ByteArray) (run frm unt : Int) (hk : key.size ≤ 1048576) (h1 : tn.size ≤ 1048576) (h2 : sp.size ≤ 1048576) :
    Calls Tryd.prog 6 #[.string key, .string tn, .string sp, .int .i64 run, .int .i64 frm, .int .i64 unt] w fun e w' => MintR w key tn sp run frm unt e w' ∧ w.grownBy w' none := by
  obtain ⟨W, hW⟩ : ∃ W, (w.alloc (Obj.cells #[Value.string ⟨#[]⟩, .string ⟨#[]⟩, .int .i64 0, .int .i64 0, .int .i64 0, .slice none 0 0, .string ⟨#[]⟩] 24)).alloc (Obj.cells #[Value.string tn, .string sp, .int .i64 run, .int .i64 frm, .int .i64 unt, .slice none 0 0, .string ⟨#[]⟩] 24) = W := ⟨_, rfl⟩
  obtain ⟨B, hB⟩ : ∃ x, w.heap.size + 1 = x := ⟨_, rfl⟩
  obtain ⟨C, hC⟩ : ∃ x, w.heap.size = x := ⟨_, rfl⟩
  have HG := Lib.hid (show w.grownBy W none from by rw [← hW]; exact grown_alloc (grown_alloc (grown_refl _ _) _) _)
  have HBC := Lib.hid (show Blk W C 24 (capC ⟨#[]⟩ ⟨#[]⟩ 0 0 0 (.slice none 0 0) ⟨#[]⟩) from by rw [← hW, ← hC]; exact (Blk.new w 24 [.string ⟨#[]⟩, .string ⟨#[]⟩, .int .i64 0, .int .i64 0, .int .i64 0, .slice none 0 0, .string ⟨#[]⟩]).alloc _)
  have HBB := Lib.hid (show Blk W B 24 [.string tn, .string sp, .int .i64 run, .int .i64 frm, .int .i64 unt, .slice none 0 0, .string ⟨#[]⟩] from by
    rw [← hW, ← hB]
    have := Blk.new (w.alloc (Obj.cells #[Value.string ⟨#[]⟩, .string ⟨#[]⟩, .int .i64 0, .int .i64 0, .int .i64 0, .slice none 0 0, .string ⟨#[]⟩] 24)) 24 [.string tn, .string sp, .int .i64 run, .int .i64 frm, .int .i64 unt, .slice none 0 0, .string ⟨#[]⟩]
    rw [show (w.alloc (Obj.cells #[Value.string ⟨#[]⟩, .string ⟨#[]⟩, .int .i64 0, .int .i64 0, .int .i64 0, .slice none 0 0, .string ⟨#[]⟩] 24)).heap.size = w.heap.size + 1 from by simp] at this
    exact this)
  have HNE := Lib.hid (show C < B ∧ w.heap.size ≤ C ∧ w.heap.size ≤ B from ⟨by omega, by omega, by omega⟩)
  have HNO := Lib.hid (fun (V : World) (h : ¬ (RunP tn sp run ∧ TickP frm unt)) => show MintR w key tn sp run frm unt (.returned (.tuple #[.agg (capC ⟨#[]⟩ ⟨#[]⟩ 0 0 0 (.slice none 0 0) ⟨#[]⟩).toArray, .bool false])) V from .inr ⟨h, rfl⟩)
  have HYES := Lib.hid (fun (V : World) (ha : RunP tn sp run) (hb : TickP frm unt) (v : Value) (R : ByteArray) (hR : macB key (headC tn sp run.toNat frm.toNat unt.toNat) = R) (hr : Row V w.heap.size v (strs [])) => show MintR w key tn sp run frm unt (.returned (.tuple #[.agg (capC tn sp run frm unt v R).toArray, .bool true])) V from .inl ⟨ha, hb, v, by rw [hR], hr⟩)
  have HRU := Lib.hid (fun V => irun_any V tn sp run frm unt none 0 [] ⟨#[]⟩ h1 h2)
  have HTI := Lib.hid (fun V => itick_any V tn sp run frm unt none 0 [] ⟨#[]⟩)
  have HSE := Lib.hid (fun (V : World) (hV : w.grownBy V none) (ha : RunP tn sp run) (hb : TickP frm unt) => show Calls Tryd.prog 18 #[.string key, .agg #[.string tn, .string sp, .int .i64 run, .int .i64 frm, .int .i64 unt, .slice none 0 0, .string ⟨#[]⟩]] V (fun e w' => e = .returned (.string (macB key (headC tn sp run.toNat frm.toNat unt.toNat))) ∧ V.grownBy w' none) from by
    obtain ⟨r, f, u, rfl, rfl, rfl, k1, k2, k3⟩ := mint_nat ha hb
    exact iright_any V (hT.grown hV) (hP.grown hV) key tn sp r f u none 0 [] ⟨#[]⟩ 0 (.inl rfl) (by simp) (fun l h => by cases h) hk h1 h2 k1 k2 k3)
  have HCP := Lib.hid (fun (V : World) (R : ByteArray) (hR : R.size ≤ 1048576) => ccopied_any V tn sp run frm unt none 0 [] R 0 (.inl rfl) (by simp) (fun l h => by cases h) h1 h2 hR)
  have HW := Lib.hid hW
  have HBE := Lib.hid hB
  have HCE := Lib.hid hC
  clear hW hB hC h1 h2 hk hT hP
  go_enter Tryd.func6, Tryd.ntmps6
  go_wp2_with fail
  rw [HW.out, HBE.out, HCE.out]
  refine (HRU.out W).mono ?_
  rintro e w1 ⟨⟨b0, rfl, hb0⟩, hg1⟩
  have HQ0 := Lib.hid hb0
  have HBB1 := Lib.hid (HBB.out.kept hg1 (by simp))
  have HBC1 := Lib.hid (HBC.out.kept hg1 (by simp))
  have HG1 := Lib.hid (grown_trans HG.out hg1)
  clear hb0 hg1 HRU HBB HBC HG
  cases b0
  case false =>
    have HD := Lib.hid (fun (V : World) => HNO.out V (fun h => by have := HQ0.out.2 h.1; cases this))
    go_wp2_with (refine wpList_store_blk rfl 24 _ _ rfl C (capC ⟨#[]⟩ ⟨#[]⟩ 0 0 0 (.slice none 0 0) ⟨#[]⟩) (capC ⟨#[]⟩ ⟨#[]⟩ 0 0 0 (.slice none 0 0) ⟨#[]⟩) 24 HBC1.out infoCap rfl capZ_one rfl rfl ?_; intro wz hbz hgz)
    exact ⟨rfl, _, results_blk Tryd.results6 _ _ C 24 _ _ _ hbz.out Tryd.underlying24 rfl infoCap rfl rfl, HD.out _, grown_into HG1.out hgz.out HNE.out.2.1⟩
  have c0 : w1.cell? ⟨B, 0, none⟩ = some (.string tn) := HBB1.out.cell rfl
  have c1 : w1.cell? ⟨B, 1, none⟩ = some (.string sp) := HBB1.out.cell rfl
  have c2 : w1.cell? ⟨B, 2, none⟩ = some (.int .i64 run) := HBB1.out.cell rfl
  have c3 : w1.cell? ⟨B, 3, none⟩ = some (.int .i64 frm) := HBB1.out.cell rfl
  have c4 : w1.cell? ⟨B, 4, none⟩ = some (.int .i64 unt) := HBB1.out.cell rfl
  have c5 : w1.cell? ⟨B, 5, none⟩ = some (.slice none 0 0) := HBB1.out.cell rfl
  have c6 : w1.cell? ⟨B, 6, none⟩ = some (.string ⟨#[]⟩) := HBB1.out.cell rfl
  go_wp2_with fail
  clear c0 c1 c2 c3 c4 c5 c6
  refine (HTI.out w1).mono ?_
  rintro e w2 ⟨⟨b1, rfl, hb1⟩, hg2⟩
  have HQ1 := Lib.hid hb1
  have HBB2 := Lib.hid (HBB1.out.kept hg2 (by simp))
  have HBC2 := Lib.hid (HBC1.out.kept hg2 (by simp))
  have HG2 := Lib.hid (grown_trans HG1.out hg2)
  clear hb1 hg2 HTI HBB1 HBC1 HG1
  cases b1
  case false =>
    have HD := Lib.hid (fun (V : World) => HNO.out V (fun h => by have := HQ1.out.2 h.2; cases this))
    go_wp2_with (refine wpList_store_blk rfl 24 _ _ rfl C (capC ⟨#[]⟩ ⟨#[]⟩ 0 0 0 (.slice none 0 0) ⟨#[]⟩) (capC ⟨#[]⟩ ⟨#[]⟩ 0 0 0 (.slice none 0 0) ⟨#[]⟩) 24 HBC2.out infoCap rfl capZ_one rfl rfl ?_; intro wz hbz hgz)
    exact ⟨rfl, _, results_blk Tryd.results6 _ _ C 24 _ _ _ hbz.out Tryd.underlying24 rfl infoCap rfl rfl, HD.out _, grown_into HG2.out hgz.out HNE.out.2.1⟩
  have HRP := Lib.hid (HQ0.out.1 (by first | trivial | rfl))
  have HTP := Lib.hid (HQ1.out.1 (by first | trivial | rfl))
  have c0 : w2.cell? ⟨B, 0, none⟩ = some (.string tn) := HBB2.out.cell rfl
  have c1 : w2.cell? ⟨B, 1, none⟩ = some (.string sp) := HBB2.out.cell rfl
  have c2 : w2.cell? ⟨B, 2, none⟩ = some (.int .i64 run) := HBB2.out.cell rfl
  have c3 : w2.cell? ⟨B, 3, none⟩ = some (.int .i64 frm) := HBB2.out.cell rfl
  have c4 : w2.cell? ⟨B, 4, none⟩ = some (.int .i64 unt) := HBB2.out.cell rfl
  have c5 : w2.cell? ⟨B, 5, none⟩ = some (.slice none 0 0) := HBB2.out.cell rfl
  have c6 : w2.cell? ⟨B, 6, none⟩ = some (.string ⟨#[]⟩) := HBB2.out.cell rfl
  go_wp2_with fail
  clear c0 c1 c2 c3 c4 c5 c6
  refine (HSE.out _ HG2.out HRP.out HTP.out).mono ?_
  obtain ⟨R, hR⟩ : ∃ R, macB key (headC tn sp run.toNat frm.toNat unt.toNat) = R := ⟨_, rfl⟩
  have HRZ := Lib.hid (show R.size ≤ 1048576 from by rw [← hR, macB_size]; omega)
  rw [hR]
  have HRE := Lib.hid hR
  clear hR
  rintro e w6 ⟨rfl, hg6⟩
  have HBB6 := Lib.hid (HBB2.out.kept hg6 (by simp))
  have HBC6 := Lib.hid (HBC2.out.kept hg6 (by simp))
  have HG6 := Lib.hid (grown_trans HG2.out hg6)
  clear hg6 HSE HBB2 HBC2 HG2
  have q6 : w6.cell? ⟨B, 6, none⟩ = some (.string ⟨#[]⟩) := HBB6.out.cell rfl
  have f6 := HBB6.out.frozen 6
  have HG7 := Lib.hid (show w.grownBy (w6.setCell ⟨B, 6, none⟩ (.string R)) none from grown_into HG6.out (grown_set (grown_refl w6 (some B)) 6 _) HNE.out.2.2)
  have HBB7 := Lib.hid (show Blk (w6.setCell ⟨B, 6, none⟩ (.string R)) B 24 (capC tn sp run frm unt (.slice none 0 0) R) from HBB6.out.set 6 (.string R))
  have HBC7 := Lib.hid (HBC6.out.kept (grown_set (grown_refl w6 (some B)) 6 (.string R)) (by have := HNE.out; simp; omega))
  obtain ⟨W7, hW7⟩ : ∃ x, w6.setCell ⟨B, 6, none⟩ (.string R) = x := ⟨_, rfl⟩
  rw [hW7] at HG7 HBB7 HBC7
  have HW7 := Lib.hid hW7
  clear hW7
  go_wp2_with (rw [HW7.out]; refine wpList_load_blk rfl 24 _ rfl B (capC tn sp run frm unt (.slice none 0 0) R) 24 HBB7.out _ Tryd.underlying24 rfl infoCap rfl ?_)
  refine (HCP.out W7 R HRZ.out).mono ?_
  rintro e w8 ⟨v, rfl, hrow, hg8⟩
  have HRW := Lib.hid (hrow.base (b' := w.heap.size) HG7.out.size)
  have HLT := Lib.hid (show ∀ k, v.ownBlock = some k → C < k from fun k hk => by have h1 := (hrow.lt k hk).1; have h2 := HBC7.out.lt; omega)
  have HBC8 := Lib.hid (HBC7.out.kept hg8 (by simp))
  have HG8 := Lib.hid (grown_trans HG7.out hg8)
  clear hrow hg8 HCP
  go_wp2_with (refine wpList_store_blk rfl 24 _ _ rfl C (capC tn sp run frm unt v R) (capC ⟨#[]⟩ ⟨#[]⟩ 0 0 0 (.slice none 0 0) ⟨#[]⟩) 24 HBC8.out infoCap rfl (capC_one _ _ _ _ _ _ _ HRW.out.one) rfl rfl ?_; intro wz hbz hgz)
  exact ⟨rfl, _, results_blk Tryd.results6 _ _ C 24 _ _ _ hbz.out Tryd.underlying24 rfl infoCap rfl rfl, HYES.out _ HRP.out HTP.out v R HRE.out (HRW.out.kept hgz.out (fun k hk e => by have h1 := HLT.out k hk; have h2 := Option.some.inj e; omega)), grown_into HG8.out hgz.out HNE.out.2.1⟩
end Go.Proofs.YtecekbhkombnnaaDoor
