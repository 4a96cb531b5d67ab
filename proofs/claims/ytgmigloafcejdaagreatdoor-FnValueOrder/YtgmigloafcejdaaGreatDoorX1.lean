/- ValueLess: the document's and the program's. -/
import Derived.Test.YtgmigloafcejdaaGreatDoorQ3
namespace Go.Proofs.YtgmigloafcejdaaGreatDoor
open Go.RowKit

/-- both are ok, and the first comes ahead of the second -/
def LessT (T T' : VT) : Prop := OkT T ∧ OkT T' ∧ cmpT T T' = 1

set_option maxRecDepth 100000 in
set_option maxHeartbeats 2000000 in
theorem specLess (w : World) (b1 b2 : Nat) (T T' : VT) (cs cs' : List Value) (h : VIn w b1 T cs) (h' : VIn w b2 T' cs') (hbu : bulk T ≤ 1048576) (hbu' : bulk T' ≤ 1048576) (W : World) (hW : w.grownBy W none) :
    Calls Tryz.prog 18 #[.agg cs.toArray, .agg cs'.toArray] W fun e w' => Says e (LessT T T') ∧ W.grownBy w' none := by
  have HV := Lib.hid h
  have HV' := Lib.hid h'
  have HBU := Lib.hid hbu
  have HBU' := Lib.hid hbu'
  have HW := Lib.hid hW
  obtain ⟨s, n, t, an, ln, cn, ak, lk, ck, hcs⟩ := h.shape
  obtain ⟨s', n', t', an', ln', cn', ak', lk', ck', hcs'⟩ := h'.shape
  subst hcs
  subst hcs'
  clear h h' hbu hbu' hW
  have HGX := Lib.hid (show W.grownBy ((W.alloc (Obj.cells #[Value.int .i64 s, .int .i64 n, .string t, .slice an ln cn, .slice ak lk ck] 27)).alloc (Obj.cells #[Value.int .i64 s', .int .i64 n', .string t', .slice an' ln' cn', .slice ak' lk' ck'] 27)) none from grown_alloc (grown_alloc (grown_refl _ _) _) _)
  have HBA := Lib.hid (show Blk ((W.alloc (Obj.cells #[Value.int .i64 s, .int .i64 n, .string t, .slice an ln cn, .slice ak lk ck] 27)).alloc (Obj.cells #[Value.int .i64 s', .int .i64 n', .string t', .slice an' ln' cn', .slice ak' lk' ck'] 27)) W.heap.size 27 [.int .i64 s, .int .i64 n, .string t, .slice an ln cn, .slice ak lk ck] from (Blk.new W 27 _).alloc _)
  have HBB := Lib.hid (show Blk ((W.alloc (Obj.cells #[Value.int .i64 s, .int .i64 n, .string t, .slice an ln cn, .slice ak lk ck] 27)).alloc (Obj.cells #[Value.int .i64 s', .int .i64 n', .string t', .slice an' ln' cn', .slice ak' lk' ck'] 27)) (W.heap.size + 1) 27 [.int .i64 s', .int .i64 n', .string t', .slice an' ln' cn', .slice ak' lk' ck'] from by
    have := Blk.new (W.alloc (Obj.cells #[Value.int .i64 s, .int .i64 n, .string t, .slice an ln cn, .slice ak lk ck] 27)) 27 [.int .i64 s', .int .i64 n', .string t', .slice an' ln' cn', .slice ak' lk' ck']
    simpa using this)
  have HO1 := Lib.hid (specOk_any _ b1 T _ (HV.out.grown (grown_trans HW.out HGX.out)) HBU.out)
  go_enter Tryz.func18, Tryz.ntmps18
  go_wp2_with fail
  refine HO1.out.mono ?_
  rintro e w1 ⟨⟨b1, rfl, hb1⟩, hg1⟩
  have HG1 := Lib.hid (grown_trans HGX.out hg1)
  have HA1 := Lib.hid (HBA.out.kept hg1 (by simp))
  have HB1 := Lib.hid (HBB.out.kept hg1 (by simp))
  have HS1 := Lib.hid hb1
  have e0 : w1.cell? ⟨W.heap.size + 1, 0, none⟩ = some (.int .i64 s') := HB1.out.cell rfl
  have e1 : w1.cell? ⟨W.heap.size + 1, 1, none⟩ = some (.int .i64 n') := HB1.out.cell rfl
  have e2 : w1.cell? ⟨W.heap.size + 1, 2, none⟩ = some (.string t') := HB1.out.cell rfl
  have e3 : w1.cell? ⟨W.heap.size + 1, 3, none⟩ = some (.slice an' ln' cn') := HB1.out.cell rfl
  have e4 : w1.cell? ⟨W.heap.size + 1, 4, none⟩ = some (.slice ak' lk' ck') := HB1.out.cell rfl
  clear hg1 hb1 HO1 HGX HBA HBB
  cases b1
  · have HD := Lib.hid (show Says (.returned (.bool false)) (LessT T T') from .no (fun h => by have := HS1.out.2 h.1; cases this))
    go_wp2
    go_ret
    exact ⟨HD.out, HG1.out⟩
  have HOK := Lib.hid (HS1.out.1 rfl)
  have HO2 := Lib.hid (specOk_any w1 b2 T' _ (HV'.out.grown (grown_trans HW.out HG1.out)) HBU'.out)
  go_wp2_with fail
  refine HO2.out.mono ?_
  rintro e w2 ⟨⟨b2, rfl, hb2⟩, hg2⟩
  have HG2 := Lib.hid (grown_trans HG1.out hg2)
  have HA2 := Lib.hid (HA1.out.kept hg2 (by simp))
  have HB2 := Lib.hid (HB1.out.kept hg2 (by simp))
  have HS2 := Lib.hid hb2
  clear hg2 hb2 HO2 HA1 HB1 HG1 e0 e1 e2 e3 e4 HS1
  have d0 : w2.cell? ⟨W.heap.size, 0, none⟩ = some (.int .i64 s) := HA2.out.cell rfl
  have d1 : w2.cell? ⟨W.heap.size, 1, none⟩ = some (.int .i64 n) := HA2.out.cell rfl
  have d2 : w2.cell? ⟨W.heap.size, 2, none⟩ = some (.string t) := HA2.out.cell rfl
  have d3 : w2.cell? ⟨W.heap.size, 3, none⟩ = some (.slice an ln cn) := HA2.out.cell rfl
  have d4 : w2.cell? ⟨W.heap.size, 4, none⟩ = some (.slice ak lk ck) := HA2.out.cell rfl
  have e0 : w2.cell? ⟨W.heap.size + 1, 0, none⟩ = some (.int .i64 s') := HB2.out.cell rfl
  have e1 : w2.cell? ⟨W.heap.size + 1, 1, none⟩ = some (.int .i64 n') := HB2.out.cell rfl
  have e2 : w2.cell? ⟨W.heap.size + 1, 2, none⟩ = some (.string t') := HB2.out.cell rfl
  have e3 : w2.cell? ⟨W.heap.size + 1, 3, none⟩ = some (.slice an' ln' cn') := HB2.out.cell rfl
  have e4 : w2.cell? ⟨W.heap.size + 1, 4, none⟩ = some (.slice ak' lk' ck') := HB2.out.cell rfl
  cases b2
  · have HD := Lib.hid (show Says (.returned (.bool false)) (LessT T T') from .no (fun h => by have := HS2.out.2 h.2.1; cases this))
    go_wp2
    go_ret
    exact ⟨HD.out, HG2.out⟩
  have HOK' := Lib.hid (HS2.out.1 rfl)
  have HCM := Lib.hid (specLess_any w _ T _ HV.out _ T' _ HV'.out 1 HOK.out.1 HOK'.out.1 w2 (grown_trans HW.out HG2.out))
  obtain ⟨c, hc⟩ : ∃ c, c = cmpT T T' := ⟨_, rfl⟩
  rw [← hc] at HCM
  have HC := Lib.hid hc
  clear hc
  go_wp2_with fail
  refine HCM.out.mono ?_
  rintro e w3 ⟨rfl, hg3⟩
  have HG3 := Lib.hid (grown_trans HG2.out hg3)
  clear hg3 HCM d0 d1 d2 d3 d4 e0 e1 e2 e3 e4
  by_cases h1 : c = 1
  · have HD := Lib.hid (show Says (.returned (.bool true)) (LessT T T') from .yes ⟨HOK.out, HOK'.out, by rw [← HC.out]; exact h1⟩)
    have h1b : (c == 1) = true := by rw [beq_iff_eq]; exact h1
    clear h1
    go_wp2
    go_ret
    exact ⟨HD.out, HG3.out⟩
  · have HD := Lib.hid (show Says (.returned (.bool false)) (LessT T T') from .no (fun h => h1 (by rw [HC.out]; exact h.2.2)))
    have h1b : (c == 1) = false := by rw [beq_eq_false_iff_ne]; exact h1
    clear h1
    go_wp2
    go_ret
    exact ⟨HD.out, HG3.out⟩

set_option maxRecDepth 100000 in
set_option maxHeartbeats 2000000 in
theorem implLess (w : World) (b1 b2 : Nat) (T T' : VT) (cs cs' : List Value) (h : VIn w b1 T cs) (h' : VIn w b2 T' cs') (hbu : bulk T ≤ 1048576) (hbu' : bulk T' ≤ 1048576) (hT : Tab w) (W : World) (hW : w.grownBy W none) :
    Calls Tryz.prog 17 #[.agg cs.toArray, .agg cs'.toArray] W fun e w' => Says e (LessT T T') ∧ W.grownBy w' none := by
  have HV := Lib.hid h
  have HV' := Lib.hid h'
  have HBU := Lib.hid hbu
  have HBU' := Lib.hid hbu'
  have HW := Lib.hid hW
  have HT := Lib.hid hT
  obtain ⟨s, n, t, an, ln, cn, ak, lk, ck, hcs⟩ := h.shape
  obtain ⟨s', n', t', an', ln', cn', ak', lk', ck', hcs'⟩ := h'.shape
  subst hcs
  subst hcs'
  clear h h' hbu hbu' hW hT
  have HGX := Lib.hid (show W.grownBy ((W.alloc (Obj.cells #[Value.int .i64 s, .int .i64 n, .string t, .slice an ln cn, .slice ak lk ck] 27)).alloc (Obj.cells #[Value.int .i64 s', .int .i64 n', .string t', .slice an' ln' cn', .slice ak' lk' ck'] 27)) none from grown_alloc (grown_alloc (grown_refl _ _) _) _)
  have HBA := Lib.hid (show Blk ((W.alloc (Obj.cells #[Value.int .i64 s, .int .i64 n, .string t, .slice an ln cn, .slice ak lk ck] 27)).alloc (Obj.cells #[Value.int .i64 s', .int .i64 n', .string t', .slice an' ln' cn', .slice ak' lk' ck'] 27)) W.heap.size 27 [.int .i64 s, .int .i64 n, .string t, .slice an ln cn, .slice ak lk ck] from (Blk.new W 27 _).alloc _)
  have HBB := Lib.hid (show Blk ((W.alloc (Obj.cells #[Value.int .i64 s, .int .i64 n, .string t, .slice an ln cn, .slice ak lk ck] 27)).alloc (Obj.cells #[Value.int .i64 s', .int .i64 n', .string t', .slice an' ln' cn', .slice ak' lk' ck'] 27)) (W.heap.size + 1) 27 [.int .i64 s', .int .i64 n', .string t', .slice an' ln' cn', .slice ak' lk' ck'] from by
    have := Blk.new (W.alloc (Obj.cells #[Value.int .i64 s, .int .i64 n, .string t, .slice an ln cn, .slice ak lk ck] 27)) 27 [.int .i64 s', .int .i64 n', .string t', .slice an' ln' cn', .slice ak' lk' ck']
    simpa using this)
  have HO1 := Lib.hid (implOk_any w b1 T _ HV.out HBU.out HT.out _ (grown_trans HW.out HGX.out))
  go_enter Tryz.func17, Tryz.ntmps17
  go_wp2_with fail
  refine HO1.out.mono ?_
  rintro e w1 ⟨⟨b1, rfl, hb1⟩, hg1⟩
  have HG1 := Lib.hid (grown_trans HGX.out hg1)
  have HA1 := Lib.hid (HBA.out.kept hg1 (by simp))
  have HB1 := Lib.hid (HBB.out.kept hg1 (by simp))
  have HS1 := Lib.hid hb1
  have e0 : w1.cell? ⟨W.heap.size + 1, 0, none⟩ = some (.int .i64 s') := HB1.out.cell rfl
  have e1 : w1.cell? ⟨W.heap.size + 1, 1, none⟩ = some (.int .i64 n') := HB1.out.cell rfl
  have e2 : w1.cell? ⟨W.heap.size + 1, 2, none⟩ = some (.string t') := HB1.out.cell rfl
  have e3 : w1.cell? ⟨W.heap.size + 1, 3, none⟩ = some (.slice an' ln' cn') := HB1.out.cell rfl
  have e4 : w1.cell? ⟨W.heap.size + 1, 4, none⟩ = some (.slice ak' lk' ck') := HB1.out.cell rfl
  clear hg1 hb1 HO1 HGX HBA HBB
  cases b1
  · have HD := Lib.hid (show Says (.returned (.bool false)) (LessT T T') from .no (fun h => by have := HS1.out.2 h.1; cases this))
    go_wp2
    go_ret
    exact ⟨HD.out, HG1.out⟩
  have HOK := Lib.hid (HS1.out.1 rfl)
  have HO2 := Lib.hid (implOk_any w b2 T' _ HV'.out HBU'.out HT.out w1 (grown_trans HW.out HG1.out))
  go_wp2_with fail
  refine HO2.out.mono ?_
  rintro e w2 ⟨⟨b2, rfl, hb2⟩, hg2⟩
  have HG2 := Lib.hid (grown_trans HG1.out hg2)
  have HA2 := Lib.hid (HA1.out.kept hg2 (by simp))
  have HB2 := Lib.hid (HB1.out.kept hg2 (by simp))
  have HS2 := Lib.hid hb2
  clear hg2 hb2 HO2 HA1 HB1 HG1 e0 e1 e2 e3 e4 HS1
  have d0 : w2.cell? ⟨W.heap.size, 0, none⟩ = some (.int .i64 s) := HA2.out.cell rfl
  have d1 : w2.cell? ⟨W.heap.size, 1, none⟩ = some (.int .i64 n) := HA2.out.cell rfl
  have d2 : w2.cell? ⟨W.heap.size, 2, none⟩ = some (.string t) := HA2.out.cell rfl
  have d3 : w2.cell? ⟨W.heap.size, 3, none⟩ = some (.slice an ln cn) := HA2.out.cell rfl
  have d4 : w2.cell? ⟨W.heap.size, 4, none⟩ = some (.slice ak lk ck) := HA2.out.cell rfl
  have e0 : w2.cell? ⟨W.heap.size + 1, 0, none⟩ = some (.int .i64 s') := HB2.out.cell rfl
  have e1 : w2.cell? ⟨W.heap.size + 1, 1, none⟩ = some (.int .i64 n') := HB2.out.cell rfl
  have e2 : w2.cell? ⟨W.heap.size + 1, 2, none⟩ = some (.string t') := HB2.out.cell rfl
  have e3 : w2.cell? ⟨W.heap.size + 1, 3, none⟩ = some (.slice an' ln' cn') := HB2.out.cell rfl
  have e4 : w2.cell? ⟨W.heap.size + 1, 4, none⟩ = some (.slice ak' lk' ck') := HB2.out.cell rfl
  cases b2
  · have HD := Lib.hid (show Says (.returned (.bool false)) (LessT T T') from .no (fun h => by have := HS2.out.2 h.2.1; cases this))
    go_wp2
    go_ret
    exact ⟨HD.out, HG2.out⟩
  have HOK' := Lib.hid (HS2.out.1 rfl)
  have HCM := Lib.hid (implCmp_any w _ T _ HV.out _ T' _ HV'.out 1 HOK.out.1 HOK'.out.1 w2 (grown_trans HW.out HG2.out))
  have hsm := cmpT_small T T'
  obtain ⟨c, hc⟩ : ∃ c, c = -(cmpT T T') := ⟨_, rfl⟩
  rw [← hc] at HCM
  have HC := Lib.hid hc
  have hcm : -1 ≤ c ∧ c ≤ 1 := by omega
  have HCS := Lib.hid hcm
  clear hc hsm hcm
  go_wp2_with fail
  refine HCM.out.mono ?_
  rintro e w3 ⟨rfl, hg3⟩
  have HG3 := Lib.hid (grown_trans HG2.out hg3)
  clear hg3 HCM d0 d1 d2 d3 d4 e0 e1 e2 e3 e4
  have HD := Lib.hid (show Says (.returned (.bool (decide (c < 0)))) (LessT T T') from ⟨_, rfl, by
    rw [decide_eq_true_eq]
    have h1 := HC.out
    have h2 := HCS.out
    exact ⟨fun h => ⟨HOK.out, HOK'.out, by omega⟩, fun h => by have := h.2.2; omega⟩⟩)
  go_wp2
  go_ret
  exact ⟨HD.out, HG3.out⟩
end Go.Proofs.YtgmigloafcejdaaGreatDoor
