/- FnExactValueShow, walked. -/
import Derived.Test.YtgmigloafcejdaaGreatDoorSH7
import Derived.Deep.RegionWith
namespace Go.Proofs.YtgmigloafcejdaaGreatDoor
open Go.RowKit

set_option maxRecDepth 100000 in
set_option maxHeartbeats 2000000 in
theorem exactShow_walk (w : World) (hT : Tab w) (hPw : Pow w) (T : VT) (cs : List Value) (h : VIn w 0 T cs) : Calls Tryz.prog 5 #[.agg cs.toArray] w fun e w' => e = .returned (.bool true) ∧ w.grownBy w' none := by
  have HSZ := Lib.hid (szV_any w T cs h)
  have HTO := Lib.hid (toV_any w 0 T cs h)
  have HT := Lib.hid hT
  have HPW := Lib.hid hPw
  have HV := Lib.hid h
  obtain ⟨s, n, t, an, ln, cn, ak, lk, ck, hcs⟩ := h.shape
  subst hcs
  have HGA := Lib.hid (show w.grownBy (w.alloc (Obj.cells #[Value.int .i64 s, .int .i64 n, .string t, .slice an ln cn, .slice ak lk ck] 39)) none from grown_alloc (grown_refl _ _) _)
  have HBA := Lib.hid (Blk.new w 39 [.int .i64 s, .int .i64 n, .string t, .slice an ln cn, .slice ak lk ck])
  have HS0 := Lib.hid (HSZ.out _ HGA.out 1048576 (by omega))
  clear h hT hPw HSZ
  go_enter Tryz.func5, Tryz.ntmps5
  go_wp2_with fail
  refine HS0.out.mono ?_
  rintro e w1 ⟨r, rfl, hr, hg1⟩
  have HG1 := Lib.hid (grown_trans HGA.out hg1)
  have HB1 := Lib.hid (HBA.out.kept hg1 (by simp))
  have HR := Lib.hid hr
  clear hr hg1 HS0 HBA HGA
  rcases HR.out with ⟨rfl, hneg⟩ | ⟨hr0, hre⟩
  · clear hneg
    go_wp2
    go_ret
    exact ⟨rfl, HG1.out⟩
  have hbu : bulk T ≤ 1048576 := by omega
  have hr0' : ¬ r < 0 := by omega
  clear hre HR
  have HTO2 := Lib.hid (HTO.out hbu)
  have HBU := Lib.hid hbu
  clear hbu HTO
  have d0 : w1.cell? ⟨w.heap.size, 0, none⟩ = some (.int .i64 s) := HB1.out.cell rfl
  have d1 : w1.cell? ⟨w.heap.size, 1, none⟩ = some (.int .i64 n) := HB1.out.cell rfl
  have d2 : w1.cell? ⟨w.heap.size, 2, none⟩ = some (.string t) := HB1.out.cell rfl
  have d3 : w1.cell? ⟨w.heap.size, 3, none⟩ = some (.slice an ln cn) := HB1.out.cell rfl
  have d4 : w1.cell? ⟨w.heap.size, 4, none⟩ = some (.slice ak lk ck) := HB1.out.cell rfl
  go_wp2_with fail
  refine (HTO2.out w1 HG1.out).mono ?_
  rintro e w2 ⟨c2, rfl, hv2, hg2⟩
  have HG2 := Lib.hid (grown_trans HG1.out hg2)
  have HB2 := Lib.hid (HB1.out.kept hg2 (by simp))
  have HSO := Lib.hid (specShow w2 _ T c2 hv2 HBU.out)
  clear hv2 hg2 d0 d1 d2 d3 d4
  go_wp2_with fail
  refine HSO.out.mono ?_
  rintro e w3 ⟨S1, rfl, hb1, hg3⟩
  have HG3 := Lib.hid (grown_trans HG2.out hg3)
  have HB3 := Lib.hid (HB2.out.kept hg3 (by simp))
  have HSY := Lib.hid hb1
  clear hg3 HSO hb1
  have d0 : w3.cell? ⟨w.heap.size, 0, none⟩ = some (.int .i64 s) := HB3.out.cell rfl
  have d1 : w3.cell? ⟨w.heap.size, 1, none⟩ = some (.int .i64 n) := HB3.out.cell rfl
  have d2 : w3.cell? ⟨w.heap.size, 2, none⟩ = some (.string t) := HB3.out.cell rfl
  have d3 : w3.cell? ⟨w.heap.size, 3, none⟩ = some (.slice an ln cn) := HB3.out.cell rfl
  have d4 : w3.cell? ⟨w.heap.size, 4, none⟩ = some (.slice ak lk ck) := HB3.out.cell rfl
  go_wp2_with fail
  refine (HTO2.out w3 HG3.out).mono ?_
  rintro e w4 ⟨c4, rfl, hv4, hg4⟩
  obtain ⟨s4, n4, t4, an4, ln4, cn4, ak4, lk4, ck4, hc4⟩ := hv4.shape
  subst hc4
  have HG4 := Lib.hid (grown_trans HG3.out hg4)
  have HB4 := Lib.hid (HB3.out.kept hg4 (by simp))
  have HV4 := Lib.hid hv4
  clear hg4 hv4 d0 d1 d2 d3 d4
  have HGX := Lib.hid (show w4.grownBy (w4.alloc (Obj.cells #[Value.int .i64 s4, .int .i64 n4, .string t4, .slice an4 ln4 cn4, .slice ak4 lk4 ck4] 27)) none from grown_alloc (grown_refl _ _) _)
  have HBX := Lib.hid (Blk.new w4 27 [.int .i64 s4, .int .i64 n4, .string t4, .slice an4 ln4 cn4, .slice ak4 lk4 ck4])
  have HIM := Lib.hid (implShow w4 _ T _ HV4.out HBU.out (HT.out.grown HG4.out) (HPW.out.grown HG4.out) _ HGX.out)
  have hlt4 : w.heap.size < w4.heap.size := HB4.out.lt
  go_wp2_with fail
  refine HIM.out.mono ?_
  rintro e w5 ⟨S2, rfl, hb2, hg5⟩
  have HG5 := Lib.hid (grown_trans (grown_trans HG4.out HGX.out) hg5)
  have HB5 := Lib.hid ((HB4.out.kept HGX.out (by simp)).kept hg5 (by simp))
  have HX5 := Lib.hid (HBX.out.kept hg5 (by simp))
  have HV5 := Lib.hid ((HV4.out.grown HGX.out).grown hg5)
  have hbb : S2 = S1 := hb2.one HSY.out
  subst hbb
  clear hg5 hb2 HIM HSY HGX HBX HB4 HG4 HV4
  have d0 : w5.cell? ⟨w.heap.size, 0, none⟩ = some (.int .i64 s) := HB5.out.cell rfl
  have d1 : w5.cell? ⟨w.heap.size, 1, none⟩ = some (.int .i64 n) := HB5.out.cell rfl
  have d2 : w5.cell? ⟨w.heap.size, 2, none⟩ = some (.string t) := HB5.out.cell rfl
  have d3 : w5.cell? ⟨w.heap.size, 3, none⟩ = some (.slice an ln cn) := HB5.out.cell rfl
  have d4 : w5.cell? ⟨w.heap.size, 4, none⟩ = some (.slice ak lk ck) := HB5.out.cell rfl
  have e0 : w5.cell? ⟨w4.heap.size, 0, none⟩ = some (.int .i64 s4) := HX5.out.cell rfl
  have e1 : w5.cell? ⟨w4.heap.size, 1, none⟩ = some (.int .i64 n4) := HX5.out.cell rfl
  have e2 : w5.cell? ⟨w4.heap.size, 2, none⟩ = some (.string t4) := HX5.out.cell rfl
  have e3 : w5.cell? ⟨w4.heap.size, 3, none⟩ = some (.slice an4 ln4 cn4) := HX5.out.cell rfl
  have e4 : w5.cell? ⟨w4.heap.size, 4, none⟩ = some (.slice ak4 lk4 ck4) := HX5.out.cell rfl
  go_wp2
  go_region_with (first
    | (go_at_call 20; refine (HTO2.out _ ?_).mono ?_; exact grown_drew HG5.out; rintro e w6 ⟨c6, rfl, hv6, hg6⟩; have hg6 := grown_undrew hg6; have HG6 := Lib.hid (grown_trans HG5.out hg6); have HEQ := Lib.hid (eqV_any w6 _ T _ (HV5.out.grown hg6) HBU.out _ c6 hv6 w6 (grown_refl _ _)); have HX6 := Lib.hid (HX5.out.kept hg6 (by simp)); have f0 : w6.cell? ⟨w4.heap.size, 0, none⟩ = some (.int .i64 s4) := HX6.out.cell rfl; have f1 : w6.cell? ⟨w4.heap.size, 1, none⟩ = some (.int .i64 n4) := HX6.out.cell rfl; have f2 : w6.cell? ⟨w4.heap.size, 2, none⟩ = some (.string t4) := HX6.out.cell rfl; have f3 : w6.cell? ⟨w4.heap.size, 3, none⟩ = some (.slice an4 ln4 cn4) := HX6.out.cell rfl; have f4 : w6.cell? ⟨w4.heap.size, 4, none⟩ = some (.slice ak4 lk4 ck4) := HX6.out.cell rfl; clear hv6 hg6)
    | (go_at_call 21; refine HEQ.out.mono ?_; rintro e w7 ⟨rfl, hg7⟩; have HG7 := Lib.hid (grown_trans HG6.out hg7); clear hg7))
  all_goals (go_wp2; go_ret; exact ⟨rfl, HG7.out⟩)
end Go.Proofs.YtgmigloafcejdaaGreatDoor

