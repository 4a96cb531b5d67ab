/- FnExactValueLess, walked. -/
import Derived.Test.YtgmigloafcejdaaDoorX1
import Derived.Deep.RegionWith
namespace Go.Proofs.YtgmigloafcejdaaDoor
open Go.RowKit

set_option maxRecDepth 100000 in
set_option maxHeartbeats 4000000 in
theorem exactLess_walk (w : World) (hT : Tab w) (T T' : VT) (cs cs' : List Value) (h : VIn w 0 T cs) (h' : VIn w 0 T' cs') : Calls Tryd.prog 5 #[.agg cs.toArray, .agg cs'.toArray] w fun e w' => e = .returned (.bool true) ∧ w.grownBy w' none := by
  have HSZ := Lib.hid (szV_any w T cs h)
  have HSZ' := Lib.hid (szV_any w T' cs' h')
  have HTO := Lib.hid (toV_any w 0 T cs h)
  have HTO' := Lib.hid (toV_any w 0 T' cs' h')
  have HT := Lib.hid hT
  obtain ⟨s, n, t, an, ln, cn, ak, lk, ck, hcs⟩ := h.shape
  obtain ⟨s', n', t', an', ln', cn', ak', lk', ck', hcs'⟩ := h'.shape
  subst hcs
  subst hcs'
  have HGX := Lib.hid (show w.grownBy ((w.alloc (Obj.cells #[Value.int .i64 s, .int .i64 n, .string t, .slice an ln cn, .slice ak lk ck] 34)).alloc (Obj.cells #[Value.int .i64 s', .int .i64 n', .string t', .slice an' ln' cn', .slice ak' lk' ck'] 34)) none from grown_alloc (grown_alloc (grown_refl _ _) _) _)
  have HBA := Lib.hid (show Blk ((w.alloc (Obj.cells #[Value.int .i64 s, .int .i64 n, .string t, .slice an ln cn, .slice ak lk ck] 34)).alloc (Obj.cells #[Value.int .i64 s', .int .i64 n', .string t', .slice an' ln' cn', .slice ak' lk' ck'] 34)) w.heap.size 34 [.int .i64 s, .int .i64 n, .string t, .slice an ln cn, .slice ak lk ck] from (Blk.new w 34 _).alloc _)
  have HBB := Lib.hid (show Blk ((w.alloc (Obj.cells #[Value.int .i64 s, .int .i64 n, .string t, .slice an ln cn, .slice ak lk ck] 34)).alloc (Obj.cells #[Value.int .i64 s', .int .i64 n', .string t', .slice an' ln' cn', .slice ak' lk' ck'] 34)) (w.heap.size + 1) 34 [.int .i64 s', .int .i64 n', .string t', .slice an' ln' cn', .slice ak' lk' ck'] from by
    have := Blk.new (w.alloc (Obj.cells #[Value.int .i64 s, .int .i64 n, .string t, .slice an ln cn, .slice ak lk ck] 34)) 34 [.int .i64 s', .int .i64 n', .string t', .slice an' ln' cn', .slice ak' lk' ck']
    simpa using this)
  have HS0 := Lib.hid (HSZ.out _ HGX.out 1048576 (by omega))
  clear h h' hT HSZ
  go_enter Tryd.func5, Tryd.ntmps5
  go_wp2_with fail
  refine HS0.out.mono ?_
  rintro e w1 ⟨r, rfl, hr, hg1⟩
  have HG1 := Lib.hid (grown_trans HGX.out hg1)
  have HA1 := Lib.hid (HBA.out.kept hg1 (by simp))
  have HB1 := Lib.hid (HBB.out.kept hg1 (by simp))
  have HR := Lib.hid hr
  clear hr hg1 HS0 HBA HBB HGX
  rcases HR.out with ⟨rfl, hneg⟩ | ⟨hr0, hre⟩
  · clear hneg
    go_wp2
    go_ret
    exact ⟨rfl, HG1.out⟩
  obtain ⟨M, rfl⟩ := Int.eq_ofNat_of_zero_le hr0
  have hM : M ≤ 1048576 := by omega
  have HBU := Lib.hid (show bulk T ≤ 1048576 from by omega)
  have HS1 := Lib.hid (HSZ'.out w1 HG1.out M hM)
  clear hre HR HSZ'
  have e0 : w1.cell? ⟨w.heap.size + 1, 0, none⟩ = some (.int .i64 s') := HB1.out.cell rfl
  have e1 : w1.cell? ⟨w.heap.size + 1, 1, none⟩ = some (.int .i64 n') := HB1.out.cell rfl
  have e2 : w1.cell? ⟨w.heap.size + 1, 2, none⟩ = some (.string t') := HB1.out.cell rfl
  have e3 : w1.cell? ⟨w.heap.size + 1, 3, none⟩ = some (.slice an' ln' cn') := HB1.out.cell rfl
  have e4 : w1.cell? ⟨w.heap.size + 1, 4, none⟩ = some (.slice ak' lk' ck') := HB1.out.cell rfl
  go_wp2_with fail
  refine HS1.out.mono ?_
  rintro e w2 ⟨r2, rfl, hr2, hg2⟩
  have HG2 := Lib.hid (grown_trans HG1.out hg2)
  have HA2 := Lib.hid (HA1.out.kept hg2 (by simp))
  have HB2 := Lib.hid (HB1.out.kept hg2 (by simp))
  have HR := Lib.hid hr2
  clear hr2 hg2 HS1 HA1 HB1 HG1 e0 e1 e2 e3 e4
  rcases HR.out with ⟨rfl, hneg⟩ | ⟨hr20, hre⟩
  · clear hneg
    go_wp2
    go_ret
    exact ⟨rfl, HG2.out⟩
  have HBU' := Lib.hid (show bulk T' ≤ 1048576 from by omega)
  have hr2' : ¬ r2 < 0 := by omega
  have HTA := Lib.hid (HTO.out HBU.out)
  have HTB := Lib.hid (HTO'.out HBU'.out)
  clear hre HR HTO HTO'
  have d0 : w2.cell? ⟨w.heap.size, 0, none⟩ = some (.int .i64 s) := HA2.out.cell rfl
  have d1 : w2.cell? ⟨w.heap.size, 1, none⟩ = some (.int .i64 n) := HA2.out.cell rfl
  have d2 : w2.cell? ⟨w.heap.size, 2, none⟩ = some (.string t) := HA2.out.cell rfl
  have d3 : w2.cell? ⟨w.heap.size, 3, none⟩ = some (.slice an ln cn) := HA2.out.cell rfl
  have d4 : w2.cell? ⟨w.heap.size, 4, none⟩ = some (.slice ak lk ck) := HA2.out.cell rfl
  have e0 : w2.cell? ⟨w.heap.size + 1, 0, none⟩ = some (.int .i64 s') := HB2.out.cell rfl
  have e1 : w2.cell? ⟨w.heap.size + 1, 1, none⟩ = some (.int .i64 n') := HB2.out.cell rfl
  have e2 : w2.cell? ⟨w.heap.size + 1, 2, none⟩ = some (.string t') := HB2.out.cell rfl
  have e3 : w2.cell? ⟨w.heap.size + 1, 3, none⟩ = some (.slice an' ln' cn') := HB2.out.cell rfl
  have e4 : w2.cell? ⟨w.heap.size + 1, 4, none⟩ = some (.slice ak' lk' ck') := HB2.out.cell rfl
  go_upto_region 8 with fail
  go_cut [6] from 20 to 24 (fun v wx => (∃ b : Bool, v = .bool b ∧ Hid (b = true ↔ LessT T T')) ∧ Hid (w.grownBy wx none) ∧ Hid (Blk wx w.heap.size 34 [.int .i64 s, .int .i64 n, .string t, .slice an ln cn, .slice ak lk ck]) ∧ Hid (Blk wx (w.heap.size + 1) 34 [.int .i64 s', .int .i64 n', .string t', .slice an' ln' cn', .slice ak' lk' ck']))
  case first =>
    go_region_with (first
      | (go_at_call_of 16 t; refine (HTA.out _ ?_).mono ?_; (first | exact HGB.out | exact grown_drew HG2.out); rintro e wA ⟨cA, rfl, hvA, hgA⟩; have HVA := Lib.hid hvA; (first | (have HVB2 := Lib.hid (HVB.out.grown hgA); have HA3 := Lib.hid (HA3b.out.kept hgA (by simp)); have HB3 := Lib.hid (HB3b.out.kept hgA (by simp)); have HGA := Lib.hid (grown_trans HGB.out hgA)) | (have hgA := grown_undrew hgA; have HA3 := Lib.hid (HA2.out.kept hgA (by simp)); have HB3 := Lib.hid (HB2.out.kept hgA (by simp)); have HGA := Lib.hid (grown_trans HG2.out hgA))); have i0 : wA.cell? ⟨w.heap.size, 0, none⟩ = some (.int .i64 s) := HA3.out.cell rfl; have i1 : wA.cell? ⟨w.heap.size, 1, none⟩ = some (.int .i64 n) := HA3.out.cell rfl; have i2 : wA.cell? ⟨w.heap.size, 2, none⟩ = some (.string t) := HA3.out.cell rfl; have i3 : wA.cell? ⟨w.heap.size, 3, none⟩ = some (.slice an ln cn) := HA3.out.cell rfl; have i4 : wA.cell? ⟨w.heap.size, 4, none⟩ = some (.slice ak lk ck) := HA3.out.cell rfl; have j0 : wA.cell? ⟨w.heap.size + 1, 0, none⟩ = some (.int .i64 s') := HB3.out.cell rfl; have j1 : wA.cell? ⟨w.heap.size + 1, 1, none⟩ = some (.int .i64 n') := HB3.out.cell rfl; have j2 : wA.cell? ⟨w.heap.size + 1, 2, none⟩ = some (.string t') := HB3.out.cell rfl; have j3 : wA.cell? ⟨w.heap.size + 1, 3, none⟩ = some (.slice an' ln' cn') := HB3.out.cell rfl; have j4 : wA.cell? ⟨w.heap.size + 1, 4, none⟩ = some (.slice ak' lk' ck') := HB3.out.cell rfl; clear hvA hgA)
      | (go_at_call_of 16 t'; refine (HTB.out _ ?_).mono ?_; (first | exact HGA.out | exact grown_drew HG2.out); rintro e wB ⟨cB, rfl, hvB, hgB⟩; have HVB := Lib.hid hvB; (first | (have HVA2 := Lib.hid (HVA.out.grown hgB); have HA3b := Lib.hid (HA3.out.kept hgB (by simp)); have HB3b := Lib.hid (HB3.out.kept hgB (by simp)); have HGB := Lib.hid (grown_trans HGA.out hgB)) | (have hgB := grown_undrew hgB; have HA3b := Lib.hid (HA2.out.kept hgB (by simp)); have HB3b := Lib.hid (HB2.out.kept hgB (by simp)); have HGB := Lib.hid (grown_trans HG2.out hgB))); have k0 : wB.cell? ⟨w.heap.size, 0, none⟩ = some (.int .i64 s) := HA3b.out.cell rfl; have k1 : wB.cell? ⟨w.heap.size, 1, none⟩ = some (.int .i64 n) := HA3b.out.cell rfl; have k2 : wB.cell? ⟨w.heap.size, 2, none⟩ = some (.string t) := HA3b.out.cell rfl; have k3 : wB.cell? ⟨w.heap.size, 3, none⟩ = some (.slice an ln cn) := HA3b.out.cell rfl; have k4 : wB.cell? ⟨w.heap.size, 4, none⟩ = some (.slice ak lk ck) := HA3b.out.cell rfl; have m0 : wB.cell? ⟨w.heap.size + 1, 0, none⟩ = some (.int .i64 s') := HB3b.out.cell rfl; have m1 : wB.cell? ⟨w.heap.size + 1, 1, none⟩ = some (.int .i64 n') := HB3b.out.cell rfl; have m2 : wB.cell? ⟨w.heap.size + 1, 2, none⟩ = some (.string t') := HB3b.out.cell rfl; have m3 : wB.cell? ⟨w.heap.size + 1, 3, none⟩ = some (.slice an' ln' cn') := HB3b.out.cell rfl; have m4 : wB.cell? ⟨w.heap.size + 1, 4, none⟩ = some (.slice ak' lk' ck') := HB3b.out.cell rfl; clear hvB hgB)
      | (go_at_call 19; first
          | (refine (specLess wB _ _ T T' _ _ HVA2.out HVB.out HBU.out HBU'.out wB (grown_refl _ _)).mono ?_; rintro e wC ⟨⟨b, rfl, hb⟩, hgC⟩; have HGC := Lib.hid (grown_trans HGB.out hgC); have HA4 := Lib.hid (HA3b.out.kept hgC (by simp)); have HB4 := Lib.hid (HB3b.out.kept hgC (by simp)); have HSB := Lib.hid hb; clear hb hgC)
          | (refine (specLess wA _ _ T T' _ _ HVA.out HVB2.out HBU.out HBU'.out wA (grown_refl _ _)).mono ?_; rintro e wC ⟨⟨b, rfl, hb⟩, hgC⟩; have HGC := Lib.hid (grown_trans HGA.out hgC); have HA4 := Lib.hid (HA3.out.kept hgC (by simp)); have HB4 := Lib.hid (HB3.out.kept hgC (by simp)); have HSB := Lib.hid hb; clear hb hgC)))
    all_goals (go_wp2_with fail; go_meet; case rel => exact ⟨⟨b, rfl, HSB⟩, HGC, HA4, HB4⟩)
  case rest =>
    obtain ⟨⟨b1, rfl, HSY⟩, HG3, HA3, HB3⟩ := hcut
    clear d0 d1 d2 d3 d4 e0 e1 e2 e3 e4 HA2 HB2
    have d0 : wc.cell? ⟨w.heap.size, 0, none⟩ = some (.int .i64 s) := HA3.out.cell rfl
    have d1 : wc.cell? ⟨w.heap.size, 1, none⟩ = some (.int .i64 n) := HA3.out.cell rfl
    have d2 : wc.cell? ⟨w.heap.size, 2, none⟩ = some (.string t) := HA3.out.cell rfl
    have d3 : wc.cell? ⟨w.heap.size, 3, none⟩ = some (.slice an ln cn) := HA3.out.cell rfl
    have d4 : wc.cell? ⟨w.heap.size, 4, none⟩ = some (.slice ak lk ck) := HA3.out.cell rfl
    go_wp2_with fail
    refine (HTA.out wc HG3.out).mono ?_
    rintro e w4 ⟨c4, rfl, hv4, hg4⟩
    obtain ⟨s4, n4, t4, an4, ln4, cn4, ak4, lk4, ck4, hc4⟩ := hv4.shape
    subst hc4
    have HG4 := Lib.hid (grown_trans HG3.out hg4)
    have HA4 := Lib.hid (HA3.out.kept hg4 (by simp))
    have HB4 := Lib.hid (HB3.out.kept hg4 (by simp))
    have HV4 := Lib.hid hv4
    clear hg4 hv4 d0 d1 d2 d3 d4 HA3 HB3
    have HGX := Lib.hid (show w4.grownBy (w4.alloc (Obj.cells #[Value.int .i64 s4, .int .i64 n4, .string t4, .slice an4 ln4 cn4, .slice ak4 lk4 ck4] 26)) none from grown_alloc (grown_refl _ _) _)
    have HBX := Lib.hid (Blk.new w4 26 [.int .i64 s4, .int .i64 n4, .string t4, .slice an4 ln4 cn4, .slice ak4 lk4 ck4])
    have HB4X := Lib.hid (HB4.out.kept HGX.out (by simp))
    have hlt4 : w.heap.size + 1 < w4.heap.size := HB4.out.lt
    have e0 : (w4.alloc (Obj.cells #[Value.int .i64 s4, .int .i64 n4, .string t4, .slice an4 ln4 cn4, .slice ak4 lk4 ck4] 26)).cell? ⟨w.heap.size + 1, 0, none⟩ = some (.int .i64 s') := HB4X.out.cell rfl
    have e1 : (w4.alloc (Obj.cells #[Value.int .i64 s4, .int .i64 n4, .string t4, .slice an4 ln4 cn4, .slice ak4 lk4 ck4] 26)).cell? ⟨w.heap.size + 1, 1, none⟩ = some (.int .i64 n') := HB4X.out.cell rfl
    have e2 : (w4.alloc (Obj.cells #[Value.int .i64 s4, .int .i64 n4, .string t4, .slice an4 ln4 cn4, .slice ak4 lk4 ck4] 26)).cell? ⟨w.heap.size + 1, 2, none⟩ = some (.string t') := HB4X.out.cell rfl
    have e3 : (w4.alloc (Obj.cells #[Value.int .i64 s4, .int .i64 n4, .string t4, .slice an4 ln4 cn4, .slice ak4 lk4 ck4] 26)).cell? ⟨w.heap.size + 1, 3, none⟩ = some (.slice an' ln' cn') := HB4X.out.cell rfl
    have e4 : (w4.alloc (Obj.cells #[Value.int .i64 s4, .int .i64 n4, .string t4, .slice an4 ln4 cn4, .slice ak4 lk4 ck4] 26)).cell? ⟨w.heap.size + 1, 4, none⟩ = some (.slice ak' lk' ck') := HB4X.out.cell rfl
    go_wp2_with fail
    refine (HTB.out _ (grown_trans HG4.out HGX.out)).mono ?_
    rintro e w5 ⟨c5, rfl, hv5, hg5⟩
    obtain ⟨s5, n5, t5, an5, ln5, cn5, ak5, lk5, ck5, hc5⟩ := hv5.shape
    subst hc5
    have HG5 := Lib.hid (grown_trans (grown_trans HG4.out HGX.out) hg5)
    have HA5 := Lib.hid ((HA4.out.kept HGX.out (by simp)).kept hg5 (by simp))
    have HB5 := Lib.hid (HB4X.out.kept hg5 (by simp))
    have HX5 := Lib.hid (HBX.out.kept hg5 (by simp))
    have HVA5 := Lib.hid ((HV4.out.grown HGX.out).grown hg5)
    have HVB5 := Lib.hid hv5
    clear hg5 hv5 e0 e1 e2 e3 e4 HA4 HB4 HB4X HBX HGX HV4
    have HGY := Lib.hid (show w5.grownBy (w5.alloc (Obj.cells #[Value.int .i64 s5, .int .i64 n5, .string t5, .slice an5 ln5 cn5, .slice ak5 lk5 ck5] 26)) none from grown_alloc (grown_refl _ _) _)
    have HBY := Lib.hid (Blk.new w5 26 [.int .i64 s5, .int .i64 n5, .string t5, .slice an5 ln5 cn5, .slice ak5 lk5 ck5])
    have HXY := Lib.hid (HX5.out.kept HGY.out (by simp))
    have hlt5 : w4.heap.size < w5.heap.size := HX5.out.lt
    have f0 : (w5.alloc (Obj.cells #[Value.int .i64 s5, .int .i64 n5, .string t5, .slice an5 ln5 cn5, .slice ak5 lk5 ck5] 26)).cell? ⟨w4.heap.size, 0, none⟩ = some (.int .i64 s4) := HXY.out.cell rfl
    have f1 : (w5.alloc (Obj.cells #[Value.int .i64 s5, .int .i64 n5, .string t5, .slice an5 ln5 cn5, .slice ak5 lk5 ck5] 26)).cell? ⟨w4.heap.size, 1, none⟩ = some (.int .i64 n4) := HXY.out.cell rfl
    have f2 : (w5.alloc (Obj.cells #[Value.int .i64 s5, .int .i64 n5, .string t5, .slice an5 ln5 cn5, .slice ak5 lk5 ck5] 26)).cell? ⟨w4.heap.size, 2, none⟩ = some (.string t4) := HXY.out.cell rfl
    have f3 : (w5.alloc (Obj.cells #[Value.int .i64 s5, .int .i64 n5, .string t5, .slice an5 ln5 cn5, .slice ak5 lk5 ck5] 26)).cell? ⟨w4.heap.size, 3, none⟩ = some (.slice an4 ln4 cn4) := HXY.out.cell rfl
    have f4 : (w5.alloc (Obj.cells #[Value.int .i64 s5, .int .i64 n5, .string t5, .slice an5 ln5 cn5, .slice ak5 lk5 ck5] 26)).cell? ⟨w4.heap.size, 4, none⟩ = some (.slice ak4 lk4 ck4) := HXY.out.cell rfl
    have HIM := Lib.hid (implLess w5 _ _ T T' _ _ HVA5.out HVB5.out HBU.out HBU'.out (HT.out.grown HG5.out) _ HGY.out)
    go_wp2_with fail
    refine HIM.out.mono ?_
    rintro e w6 ⟨⟨b2, rfl, hb2⟩, hg6⟩
    have HG6 := Lib.hid (grown_trans (grown_trans HG5.out HGY.out) hg6)
    have HA6 := Lib.hid ((HA5.out.kept HGY.out (by simp)).kept hg6 (by simp))
    have HB6 := Lib.hid ((HB5.out.kept HGY.out (by simp)).kept hg6 (by simp))
    have HX6 := Lib.hid (HXY.out.kept hg6 (by simp))
    have HY6 := Lib.hid (HBY.out.kept hg6 (by simp))
    have HVA6 := Lib.hid ((HVA5.out.grown HGY.out).grown hg6)
    have HVB6 := Lib.hid ((HVB5.out.grown HGY.out).grown hg6)
    have hbb : b2 = b1 := by
      have h1 := HSY.out
      cases b1 <;> cases b2 <;> simp_all
    subst hbb
    clear hg6 hb2 HIM HSY HGY HBY HXY HX5 HVA5 HVB5 HA5 HB5 HG5 f0 f1 f2 f3 f4
    have d0 : w6.cell? ⟨w.heap.size, 0, none⟩ = some (.int .i64 s) := HA6.out.cell rfl
    have d1 : w6.cell? ⟨w.heap.size, 1, none⟩ = some (.int .i64 n) := HA6.out.cell rfl
    have d2 : w6.cell? ⟨w.heap.size, 2, none⟩ = some (.string t) := HA6.out.cell rfl
    have d3 : w6.cell? ⟨w.heap.size, 3, none⟩ = some (.slice an ln cn) := HA6.out.cell rfl
    have d4 : w6.cell? ⟨w.heap.size, 4, none⟩ = some (.slice ak lk ck) := HA6.out.cell rfl
    have f0 : w6.cell? ⟨w4.heap.size, 0, none⟩ = some (.int .i64 s4) := HX6.out.cell rfl
    have f1 : w6.cell? ⟨w4.heap.size, 1, none⟩ = some (.int .i64 n4) := HX6.out.cell rfl
    have f2 : w6.cell? ⟨w4.heap.size, 2, none⟩ = some (.string t4) := HX6.out.cell rfl
    have f3 : w6.cell? ⟨w4.heap.size, 3, none⟩ = some (.slice an4 ln4 cn4) := HX6.out.cell rfl
    have f4 : w6.cell? ⟨w4.heap.size, 4, none⟩ = some (.slice ak4 lk4 ck4) := HX6.out.cell rfl
    go_upto_region 14 with fail
    go_cut [39] from 35 to 39 (fun v wx => v = .bool false ∧ Hid (w6.grownBy wx none))
    case first =>
      go_region_with (first
        | (go_at_call 16; refine (HTA.out _ ?_).mono ?_; exact grown_drew HG6.out; rintro e w7 ⟨c7, rfl, hv7, hg7⟩; have hg7 := grown_undrew hg7; have HG7 := Lib.hid hg7; have HEQ := Lib.hid (eqV_any w7 _ T _ (HVA6.out.grown hg7) HBU.out _ c7 hv7 w7 (grown_refl _ _)); have HX7 := Lib.hid (HX6.out.kept hg7 (by simp)); have g0 : w7.cell? ⟨w4.heap.size, 0, none⟩ = some (.int .i64 s4) := HX7.out.cell rfl; have g1 : w7.cell? ⟨w4.heap.size, 1, none⟩ = some (.int .i64 n4) := HX7.out.cell rfl; have g2 : w7.cell? ⟨w4.heap.size, 2, none⟩ = some (.string t4) := HX7.out.cell rfl; have g3 : w7.cell? ⟨w4.heap.size, 3, none⟩ = some (.slice an4 ln4 cn4) := HX7.out.cell rfl; have g4 : w7.cell? ⟨w4.heap.size, 4, none⟩ = some (.slice ak4 lk4 ck4) := HX7.out.cell rfl; clear hv7 hg7)
        | (go_at_call 18; refine HEQ.out.mono ?_; rintro e w8 ⟨rfl, hg8⟩; have HG8 := Lib.hid (grown_trans HG7.out hg8); clear hg8))
      all_goals (go_wp2_with fail; go_meet; case rel => exact ⟨rfl, HG8⟩)
    case rest =>
      obtain ⟨rfl, HGc⟩ := hcut
      have HG9 := Lib.hid (grown_trans HG6.out HGc.out)
      have HB9 := Lib.hid (HB6.out.kept HGc.out (by simp))
      have HY9 := Lib.hid (HY6.out.kept HGc.out (by simp))
      have HVB9 := Lib.hid (HVB6.out.grown HGc.out)
      clear d0 d1 d2 d3 d4 f0 f1 f2 f3 f4
      have e0 : wc.cell? ⟨w.heap.size + 1, 0, none⟩ = some (.int .i64 s') := HB9.out.cell rfl
      have e1 : wc.cell? ⟨w.heap.size + 1, 1, none⟩ = some (.int .i64 n') := HB9.out.cell rfl
      have e2 : wc.cell? ⟨w.heap.size + 1, 2, none⟩ = some (.string t') := HB9.out.cell rfl
      have e3 : wc.cell? ⟨w.heap.size + 1, 3, none⟩ = some (.slice an' ln' cn') := HB9.out.cell rfl
      have e4 : wc.cell? ⟨w.heap.size + 1, 4, none⟩ = some (.slice ak' lk' ck') := HB9.out.cell rfl
      have f0 : wc.cell? ⟨w5.heap.size, 0, none⟩ = some (.int .i64 s5) := HY9.out.cell rfl
      have f1 : wc.cell? ⟨w5.heap.size, 1, none⟩ = some (.int .i64 n5) := HY9.out.cell rfl
      have f2 : wc.cell? ⟨w5.heap.size, 2, none⟩ = some (.string t5) := HY9.out.cell rfl
      have f3 : wc.cell? ⟨w5.heap.size, 3, none⟩ = some (.slice an5 ln5 cn5) := HY9.out.cell rfl
      have f4 : wc.cell? ⟨w5.heap.size, 4, none⟩ = some (.slice ak5 lk5 ck5) := HY9.out.cell rfl
      go_upto_region 16 with fail
      go_region_with (first
        | (go_at_call 16; refine (HTB.out _ ?_).mono ?_; exact grown_drew HG9.out; rintro e wz ⟨cz, rfl, hvz, hgz⟩; have hgz := grown_undrew hgz; have HGz := Lib.hid (grown_trans HG9.out hgz); have HEQ := Lib.hid (eqV_any wz _ T' _ (HVB9.out.grown hgz) HBU'.out _ cz hvz wz (grown_refl _ _)); have HYz := Lib.hid (HY9.out.kept hgz (by simp)); have g0 : wz.cell? ⟨w5.heap.size, 0, none⟩ = some (.int .i64 s5) := HYz.out.cell rfl; have g1 : wz.cell? ⟨w5.heap.size, 1, none⟩ = some (.int .i64 n5) := HYz.out.cell rfl; have g2 : wz.cell? ⟨w5.heap.size, 2, none⟩ = some (.string t5) := HYz.out.cell rfl; have g3 : wz.cell? ⟨w5.heap.size, 3, none⟩ = some (.slice an5 ln5 cn5) := HYz.out.cell rfl; have g4 : wz.cell? ⟨w5.heap.size, 4, none⟩ = some (.slice ak5 lk5 ck5) := HYz.out.cell rfl; clear hvz hgz)
        | (go_at_call 18; refine HEQ.out.mono ?_; rintro e wq ⟨rfl, hgq⟩; have HGq := Lib.hid (grown_trans HGz.out hgq); clear hgq))
      all_goals (go_wp2; go_ret; exact ⟨rfl, HGq.out⟩)
end Go.Proofs.YtgmigloafcejdaaDoor

