/- A tape at which power fails, by the document: nothing is torn. -/
import Derived.Test.YtpmjinlbfddmmaaP6
namespace Go.Proofs.Ytpmjinlbfddmmaa
open Go.RowKit

set_option maxRecDepth 100000 in
set_option maxHeartbeats 4000000 in
theorem crash_A2 (w : World) (gs cs gl cl : Nat) (ss ls : List ByteArray) (hs : At w ⟨gs, 0, none⟩ ss) (hl : At w ⟨gl, 0, none⟩ ls) (n1 : ss.length ≤ 1048576) (n2 : ls.length ≤ 1048576) (hcl : ls.length ≤ cl) (whole torn : Int) (T : List ByteArray) (m : Nat) (hm : m ≤ ls.length) (hw : whole = (m : Int)) (hTl : T.length = m) (hLT : At w ⟨gl, 0, none⟩ T) (hno : ¬ ((m : Int) < ls.length ∧ 0 < torn)) :
    Calls Try.prog 16 #[.agg #[.slice (some ⟨gs, 0, none⟩) ss.length cs, .slice (some ⟨gl, 0, none⟩) ls.length cl], .int .i64 whole, .int .i64 torn] w fun e w' => ∃ v a2 c2, e = .returned (.agg #[v, .slice a2 0 c2]) ∧ Row w' w.heap.size v (strs (ss ++ T)) ∧ w.grownBy w' none := by
  have HG := Lib.hid (show w.grownBy (((w.alloc (Obj.cells #[Value.slice (some ⟨gs, 0, none⟩) ss.length cs, .slice (some ⟨gl, 0, none⟩) ls.length cl] 26)).alloc (Obj.cells #[Value.slice none 0 0, .slice none 0 0] 26)).alloc (Obj.cells #[] 9)) none from grown_alloc (grown_alloc (grown_alloc (grown_refl _ _) _) _) _)
  have HBX := Lib.hid (show Blk (((w.alloc (Obj.cells #[Value.slice (some ⟨gs, 0, none⟩) ss.length cs, .slice (some ⟨gl, 0, none⟩) ls.length cl] 26)).alloc (Obj.cells #[Value.slice none 0 0, .slice none 0 0] 26)).alloc (Obj.cells #[] 9)) w.heap.size 26 [Value.slice (some ⟨gs, 0, none⟩) ss.length cs, .slice (some ⟨gl, 0, none⟩) ls.length cl] from ((Blk.new w 26 _).alloc _).alloc _)
  have HBR := Lib.hid (show Blk (((w.alloc (Obj.cells #[Value.slice (some ⟨gs, 0, none⟩) ss.length cs, .slice (some ⟨gl, 0, none⟩) ls.length cl] 26)).alloc (Obj.cells #[Value.slice none 0 0, .slice none 0 0] 26)).alloc (Obj.cells #[] 9)) (w.heap.size + 1) 26 [Value.slice none 0 0, .slice none 0 0] from by
    have := (Blk.new (w.alloc (Obj.cells #[Value.slice (some ⟨gs, 0, none⟩) ss.length cs, .slice (some ⟨gl, 0, none⟩) ls.length cl] 26)) 26 [Value.slice none 0 0, .slice none 0 0]).alloc (Obj.cells #[] 9)
    simpa using this)
  have HR0 := Lib.hid (show Row (((w.alloc (Obj.cells #[Value.slice (some ⟨gs, 0, none⟩) ss.length cs, .slice (some ⟨gl, 0, none⟩) ls.length cl] 26)).alloc (Obj.cells #[Value.slice none 0 0, .slice none 0 0] 26)).alloc (Obj.cells #[] 9)) (w.heap.size + 2) (.slice (some ⟨w.heap.size + 1 + 1, 0, none⟩) 0 0) (strs []) from by
    have := Row.lit ((w.alloc (Obj.cells #[Value.slice (some ⟨gs, 0, none⟩) ss.length cs, .slice (some ⟨gl, 0, none⟩) ls.length cl] 26)).alloc (Obj.cells #[Value.slice none 0 0, .slice none 0 0] 26)) 9 []
    simp only [World.size_alloc] at this
    exact this.base (by omega))
  have HS := Lib.hid hs
  have HL := Lib.hid hl
  obtain ⟨i9, hi9, hz0, hz1, hz2⟩ := info_parts info9g
  clear hs hl
  subst hw
  have q1 : ¬ (m : Int) < 0 := by omega
  have hmI : (m : Int) ≤ ls.length := by omega
  have hmc : (m : Int) ≤ cl := by omega
  have q2 : ¬ (ls.length : Int) < (m : Int) := by omega
  have nq : ((m : Int) < ls.length ∧ 0 < torn) = False := eq_false hno
  have HLT := Lib.hid hLT
  have HLE := Lib.hid (show (ss ++ T).length = ss.length + m from by simp [hTl])
  clear hLT
  go_enter Try.func16, Try.ntmps16
  go_wp2_with (first | (at_builtin; go_must (refine wpList_append_row2 rfl _ _ 22 rfl 9 i9 (.string ⟨#[]⟩) 16 Try.underlying22 hi9 hz0 hz1 hz2 rfl (w.heap.size + 2) _ (strs []) rfl HR0.out ⟨gs, 0, none⟩ ss.length cs (strs ss) rfl (strs_len _) (HS.out.kept HG.out (by simp)) (strs_one _) (by rw [strs_len]; simp only [List.length_nil]; unfold maxLen; omega) (by rw [strs_len]; simp only [List.length_nil]; omega) (by simp) ?_); intro v1 C1 HR1 HG1 HO1; obtain ⟨an, cn, rfl, -⟩ := (show Row C1 _ v1 (strs ss) from HR1.out).lies; have dD : ((C1.alloc (Obj.cells #[] 9)).alloc (Obj.cells #[Value.slice an ss.length cn, Value.slice (some ⟨C1.heap.size, 0, none⟩) 0 0] 26)).cell? ⟨w.heap.size, 1, none⟩ = some (.slice (some ⟨gl, 0, none⟩) ls.length cl) := (((HBX.out.kept HG1.out (fun e => by have := (HR0.out.lt _ e.symm).1; omega)).alloc _).alloc _).cell rfl))
  have HGD := Lib.hid (show w.grownBy ((C1.alloc (Obj.cells #[] 9)).alloc (Obj.cells #[Value.slice an ss.length cn, Value.slice (some ⟨C1.heap.size, 0, none⟩) 0 0] 26)) none from grown_alloc (grown_alloc (grown_own HG.out HG1.out (fun q hq => by have := (HR0.out.lt q hq).1; omega)) _) _)
  have HXD := Lib.hid (show Blk ((C1.alloc (Obj.cells #[] 9)).alloc (Obj.cells #[Value.slice an ss.length cn, Value.slice (some ⟨C1.heap.size, 0, none⟩) 0 0] 26)) w.heap.size 26 [Value.slice (some ⟨gs, 0, none⟩) ss.length cs, .slice (some ⟨gl, 0, none⟩) ls.length cl] from ((HBX.out.kept HG1.out (fun e => by have := (HR0.out.lt _ e.symm).1; omega)).alloc _).alloc _)
  have HRD := Lib.hid (show Blk ((C1.alloc (Obj.cells #[] 9)).alloc (Obj.cells #[Value.slice an ss.length cn, Value.slice (some ⟨C1.heap.size, 0, none⟩) 0 0] 26)) (w.heap.size + 1) 26 [Value.slice none 0 0, .slice none 0 0] from ((HBR.out.kept HG1.out (fun e => by have := (HR0.out.lt _ e.symm).1; omega)).alloc _).alloc _)
  have HVD := Lib.hid (show Blk ((C1.alloc (Obj.cells #[] 9)).alloc (Obj.cells #[Value.slice an ss.length cn, Value.slice (some ⟨C1.heap.size, 0, none⟩) 0 0] 26)) (C1.heap.size + 1) 26 [Value.slice an ss.length cn, .slice (some ⟨C1.heap.size, 0, none⟩) 0 0] from by
    have := Blk.new (C1.alloc (Obj.cells #[] 9)) 26 [Value.slice an ss.length cn, .slice (some ⟨C1.heap.size, 0, none⟩) 0 0]
    simpa using this)
  have HWD := Lib.hid (show Row ((C1.alloc (Obj.cells #[] 9)).alloc (Obj.cells #[Value.slice an ss.length cn, Value.slice (some ⟨C1.heap.size, 0, none⟩) 0 0] 26)) (w.heap.size + 2) (.slice an ss.length cn) (strs ss) from ((show Row C1 (w.heap.size + 2) (.slice an ss.length cn) (strs ss) from HR1.out).alloc _).alloc _)
  have HOW := Lib.hid (show ∀ q, (Value.slice an ss.length cn).ownBlock = some q → q < C1.heap.size from fun q hq => ((show Row C1 (w.heap.size + 2) (.slice an ss.length cn) (strs ss) from HR1.out).lt q hq).2)
  have hgC : w.heap.size + 2 ≤ C1.heap.size := by have h1 := (HBR.out.kept HG1.out (fun e => by have := (HR0.out.lt _ e.symm).1; omega)).lt; omega
  clear HR1 HO1 HR0 HBX HBR HG dD
  generalize ((C1.alloc (Obj.cells #[] 9)).alloc (Obj.cells #[Value.slice an ss.length cn, Value.slice (some ⟨C1.heap.size, 0, none⟩) 0 0] 26)) = DD at HGD HXD HRD HVD HWD ⊢
  generalize C1.heap.size = g at HVD HOW hgC ⊢
  refine wp_still_tail 6 (by kernel_rfl) (by kernel_rfl) (fun wx => w.grownBy wx none ∧ Blk wx w.heap.size 26 [Value.slice (some ⟨gs, 0, none⟩) ss.length cs, .slice (some ⟨gl, 0, none⟩) ls.length cl] ∧ Blk wx (w.heap.size + 1) 26 [Value.slice none 0 0, .slice none 0 0] ∧ Blk wx (g + 1) 26 [Value.slice an ss.length cn, .slice (some ⟨g, 0, none⟩) 0 0] ∧ Row wx (w.heap.size + 2) (.slice an ss.length cn) (strs ss)) ⟨grown_drew HGD.out, HXD.out.drew, HRD.out.drew, HVD.out.drew, HWD.out.drew⟩ ?_
  rintro wx ⟨hgx, hbx, hbr, hbv, hrw⟩
  have HGX := Lib.hid hgx
  have HX := Lib.hid hbx
  have HR := Lib.hid hbr
  have HV := Lib.hid hbv
  have HW := Lib.hid hrw
  have x0 : wx.cell? ⟨g + 1, 0, none⟩ = some (.slice an ss.length cn) := hbv.cell rfl
  have l1 : wx.cell? ⟨w.heap.size, 1, none⟩ = some (.slice (some ⟨gl, 0, none⟩) ls.length cl) := hbx.cell rfl
  have hszx : w.heap.size + 2 ≤ wx.heap.size := by have h1 := hbr.lt; omega
  have HTX := Lib.hid (HLT.out.kept hgx (by simp))
  clear hgx hbx hbr hbv hrw HGD HXD HRD HVD HWD
  simp only [List.take_succ_cons, List.take_zero, List.drop_succ_cons, List.drop_zero]
  repeat still_step
  refine wpStill_nil ?_
  clear x0 l1
  go_wp2_with (first | (at_builtin; go_must (refine wpList_append_row2 rfl _ _ 22 rfl 9 i9 (.string ⟨#[]⟩) 16 Try.underlying22 hi9 hz0 hz1 hz2 rfl (w.heap.size + 2) _ (strs ss) rfl HW.out ⟨gl, 0, none⟩ m cl (strs T) rfl (by rw [strs_len]; exact hTl) HTX.out (strs_one _) (by rw [strs_len]; unfold maxLen; omega) (by rw [strs_len]; omega) hszx ?_); intro v2 w4 HR4 HG4 HO4; have hr4 := HR4.out; rw [show strs ss ++ strs T = strs (ss ++ T) from by simp [strs]] at hr4; obtain ⟨an3, cn3, rfl, -⟩ := hr4.lies; have HW4 := Lib.hid hr4; have HV4 := Lib.hid (HV.out.kept HG4.out (fun e => by have := HOW.out _ e.symm; omega)); have HRR := Lib.hid (HR.out.kept HG4.out (fun e => by have := (HW.out.lt _ e.symm).1; omega)); have HX4 := Lib.hid (HX.out.kept HG4.out (fun e => by have := (HW.out.lt _ e.symm).1; omega)); have HGW4 := Lib.hid (show w.grownBy w4 none from grown_own HGX.out HG4.out (fun q hq => by have := (HW.out.lt q hq).1; omega)); have z0 : w4.cell? ⟨g + 1, 0, none⟩ = some (.slice an ss.length cn) := HV4.out.cell rfl; have z1 := HV4.out.frozen 0; have z2 : w4.cell? ⟨g + 1, 1, none⟩ = some (.slice (some ⟨g, 0, none⟩) 0 0) := HV4.out.cell rfl; have z3 : w4.cell? ⟨w.heap.size, 1, none⟩ = some (.slice (some ⟨gl, 0, none⟩) ls.length cl) := HX4.out.cell rfl; have y0 : w4.cell? ⟨w.heap.size + 1, 0, none⟩ = some (.slice none 0 0) := HRR.out.cell rfl; have y1 : w4.cell? ⟨w.heap.size + 1, 1, none⟩ = some (.slice none 0 0) := HRR.out.cell rfl; have y2 := HRR.out.frozen 0; have y3 := HRR.out.frozen 1; clear hr4))
  all_goals
    have hrow4 := HW4.out
    have ho := HO4.out
    rw [HLE.out] at hrow4 ho
    have hVl := HV.out.lt
    have hsA := grown_set (grown_refl w4 (some (g + 1))) 0 (.slice an3 (ss.length + m) cn3)
    have hrA := HRR.out.kept hsA (by intro e; have := Option.some.inj e; omega)
    have hrowA := hrow4.kept hsA (fun q hq e => by
      have := Option.some.inj e
      rcases ho q hq with h | h
      · have := HOW.out q h; omega
      · omega)
    have hgA := grown_into HGW4.out hsA (by omega)
    have hsB := grown_set (grown_set (grown_refl (w4.setCell ⟨g + 1, 0, none⟩ (.slice an3 (ss.length + m) cn3)) (some (w.heap.size + 1))) 0 (.slice an3 (ss.length + m) cn3)) 1 (.slice (some ⟨g, 0, none⟩) 0 0)
    have hrB := (hrA.set 0 (.slice an3 (ss.length + m) cn3)).set 1 (.slice (some ⟨g, 0, none⟩) 0 0)
    have hrowB := hrowA.kept hsB (fun q hq e => by have h1 := (hrowA.lt q hq).1; have := Option.some.inj e; omega)
    have hgB := grown_into hgA hsB (by omega)
    exact ⟨rfl, _, results_blk1 Try.results16 _ _ (w.heap.size + 1) 26 _ _ hrB Try.underlying26 rfl info26 rfl, _, _, _, rfl, hrowB.base (by omega), hgB⟩

set_option maxRecDepth 100000 in
set_option maxHeartbeats 4000000 in
theorem crash_A1 (w : World) (gs cs gl cl : Nat) (ss ls : List ByteArray) (hs : At w ⟨gs, 0, none⟩ ss) (hl : At w ⟨gl, 0, none⟩ ls) (n1 : ss.length ≤ 1048576) (n2 : ls.length ≤ 1048576) (_hcl : ls.length ≤ cl) (whole torn : Int) (T : List ByteArray) (hw : whole < 0) (hTl : T.length = 0) (hLT : At w ⟨gl, 0, none⟩ T) (hno : ¬ ((0 : Int) < ls.length ∧ 0 < torn)) :
    Calls Try.prog 16 #[.agg #[.slice (some ⟨gs, 0, none⟩) ss.length cs, .slice (some ⟨gl, 0, none⟩) ls.length cl], .int .i64 whole, .int .i64 torn] w fun e w' => ∃ v a2 c2, e = .returned (.agg #[v, .slice a2 0 c2]) ∧ Row w' w.heap.size v (strs (ss ++ T)) ∧ w.grownBy w' none := by
  have HG := Lib.hid (show w.grownBy (((w.alloc (Obj.cells #[Value.slice (some ⟨gs, 0, none⟩) ss.length cs, .slice (some ⟨gl, 0, none⟩) ls.length cl] 26)).alloc (Obj.cells #[Value.slice none 0 0, .slice none 0 0] 26)).alloc (Obj.cells #[] 9)) none from grown_alloc (grown_alloc (grown_alloc (grown_refl _ _) _) _) _)
  have HBX := Lib.hid (show Blk (((w.alloc (Obj.cells #[Value.slice (some ⟨gs, 0, none⟩) ss.length cs, .slice (some ⟨gl, 0, none⟩) ls.length cl] 26)).alloc (Obj.cells #[Value.slice none 0 0, .slice none 0 0] 26)).alloc (Obj.cells #[] 9)) w.heap.size 26 [Value.slice (some ⟨gs, 0, none⟩) ss.length cs, .slice (some ⟨gl, 0, none⟩) ls.length cl] from ((Blk.new w 26 _).alloc _).alloc _)
  have HBR := Lib.hid (show Blk (((w.alloc (Obj.cells #[Value.slice (some ⟨gs, 0, none⟩) ss.length cs, .slice (some ⟨gl, 0, none⟩) ls.length cl] 26)).alloc (Obj.cells #[Value.slice none 0 0, .slice none 0 0] 26)).alloc (Obj.cells #[] 9)) (w.heap.size + 1) 26 [Value.slice none 0 0, .slice none 0 0] from by
    have := (Blk.new (w.alloc (Obj.cells #[Value.slice (some ⟨gs, 0, none⟩) ss.length cs, .slice (some ⟨gl, 0, none⟩) ls.length cl] 26)) 26 [Value.slice none 0 0, .slice none 0 0]).alloc (Obj.cells #[] 9)
    simpa using this)
  have HR0 := Lib.hid (show Row (((w.alloc (Obj.cells #[Value.slice (some ⟨gs, 0, none⟩) ss.length cs, .slice (some ⟨gl, 0, none⟩) ls.length cl] 26)).alloc (Obj.cells #[Value.slice none 0 0, .slice none 0 0] 26)).alloc (Obj.cells #[] 9)) (w.heap.size + 2) (.slice (some ⟨w.heap.size + 1 + 1, 0, none⟩) 0 0) (strs []) from by
    have := Row.lit ((w.alloc (Obj.cells #[Value.slice (some ⟨gs, 0, none⟩) ss.length cs, .slice (some ⟨gl, 0, none⟩) ls.length cl] 26)).alloc (Obj.cells #[Value.slice none 0 0, .slice none 0 0] 26)) 9 []
    simp only [World.size_alloc] at this
    exact this.base (by omega))
  have HS := Lib.hid hs
  have HL := Lib.hid hl
  obtain ⟨i9, hi9, hz0, hz1, hz2⟩ := info_parts info9g
  clear hs hl
  have q2 : ¬ (ls.length : Int) < 0 := by omega
  have hmc : (0 : Int) ≤ cl := by omega
  have nq : ((0 : Int) < ls.length ∧ 0 < torn) = False := eq_false hno
  have HLT := Lib.hid hLT
  have HLE := Lib.hid (show (ss ++ T).length = ss.length from by simp [hTl])
  clear hLT
  go_enter Try.func16, Try.ntmps16
  go_wp2_with (first | (at_builtin; go_must (refine wpList_append_row2 rfl _ _ 22 rfl 9 i9 (.string ⟨#[]⟩) 16 Try.underlying22 hi9 hz0 hz1 hz2 rfl (w.heap.size + 2) _ (strs []) rfl HR0.out ⟨gs, 0, none⟩ ss.length cs (strs ss) rfl (strs_len _) (HS.out.kept HG.out (by simp)) (strs_one _) (by rw [strs_len]; simp only [List.length_nil]; unfold maxLen; omega) (by rw [strs_len]; simp only [List.length_nil]; omega) (by simp) ?_); intro v1 C1 HR1 HG1 HO1; obtain ⟨an, cn, rfl, -⟩ := (show Row C1 _ v1 (strs ss) from HR1.out).lies; have dD : ((C1.alloc (Obj.cells #[] 9)).alloc (Obj.cells #[Value.slice an ss.length cn, Value.slice (some ⟨C1.heap.size, 0, none⟩) 0 0] 26)).cell? ⟨w.heap.size, 1, none⟩ = some (.slice (some ⟨gl, 0, none⟩) ls.length cl) := (((HBX.out.kept HG1.out (fun e => by have := (HR0.out.lt _ e.symm).1; omega)).alloc _).alloc _).cell rfl))
  have HGD := Lib.hid (show w.grownBy ((C1.alloc (Obj.cells #[] 9)).alloc (Obj.cells #[Value.slice an ss.length cn, Value.slice (some ⟨C1.heap.size, 0, none⟩) 0 0] 26)) none from grown_alloc (grown_alloc (grown_own HG.out HG1.out (fun q hq => by have := (HR0.out.lt q hq).1; omega)) _) _)
  have HXD := Lib.hid (show Blk ((C1.alloc (Obj.cells #[] 9)).alloc (Obj.cells #[Value.slice an ss.length cn, Value.slice (some ⟨C1.heap.size, 0, none⟩) 0 0] 26)) w.heap.size 26 [Value.slice (some ⟨gs, 0, none⟩) ss.length cs, .slice (some ⟨gl, 0, none⟩) ls.length cl] from ((HBX.out.kept HG1.out (fun e => by have := (HR0.out.lt _ e.symm).1; omega)).alloc _).alloc _)
  have HRD := Lib.hid (show Blk ((C1.alloc (Obj.cells #[] 9)).alloc (Obj.cells #[Value.slice an ss.length cn, Value.slice (some ⟨C1.heap.size, 0, none⟩) 0 0] 26)) (w.heap.size + 1) 26 [Value.slice none 0 0, .slice none 0 0] from ((HBR.out.kept HG1.out (fun e => by have := (HR0.out.lt _ e.symm).1; omega)).alloc _).alloc _)
  have HVD := Lib.hid (show Blk ((C1.alloc (Obj.cells #[] 9)).alloc (Obj.cells #[Value.slice an ss.length cn, Value.slice (some ⟨C1.heap.size, 0, none⟩) 0 0] 26)) (C1.heap.size + 1) 26 [Value.slice an ss.length cn, .slice (some ⟨C1.heap.size, 0, none⟩) 0 0] from by
    have := Blk.new (C1.alloc (Obj.cells #[] 9)) 26 [Value.slice an ss.length cn, .slice (some ⟨C1.heap.size, 0, none⟩) 0 0]
    simpa using this)
  have HWD := Lib.hid (show Row ((C1.alloc (Obj.cells #[] 9)).alloc (Obj.cells #[Value.slice an ss.length cn, Value.slice (some ⟨C1.heap.size, 0, none⟩) 0 0] 26)) (w.heap.size + 2) (.slice an ss.length cn) (strs ss) from ((show Row C1 (w.heap.size + 2) (.slice an ss.length cn) (strs ss) from HR1.out).alloc _).alloc _)
  have HOW := Lib.hid (show ∀ q, (Value.slice an ss.length cn).ownBlock = some q → q < C1.heap.size from fun q hq => ((show Row C1 (w.heap.size + 2) (.slice an ss.length cn) (strs ss) from HR1.out).lt q hq).2)
  have hgC : w.heap.size + 2 ≤ C1.heap.size := by have h1 := (HBR.out.kept HG1.out (fun e => by have := (HR0.out.lt _ e.symm).1; omega)).lt; omega
  clear HR1 HO1 HR0 HBX HBR HG dD
  generalize ((C1.alloc (Obj.cells #[] 9)).alloc (Obj.cells #[Value.slice an ss.length cn, Value.slice (some ⟨C1.heap.size, 0, none⟩) 0 0] 26)) = DD at HGD HXD HRD HVD HWD ⊢
  generalize C1.heap.size = g at HVD HOW hgC ⊢
  refine wp_still_tail 6 (by kernel_rfl) (by kernel_rfl) (fun wx => w.grownBy wx none ∧ Blk wx w.heap.size 26 [Value.slice (some ⟨gs, 0, none⟩) ss.length cs, .slice (some ⟨gl, 0, none⟩) ls.length cl] ∧ Blk wx (w.heap.size + 1) 26 [Value.slice none 0 0, .slice none 0 0] ∧ Blk wx (g + 1) 26 [Value.slice an ss.length cn, .slice (some ⟨g, 0, none⟩) 0 0] ∧ Row wx (w.heap.size + 2) (.slice an ss.length cn) (strs ss)) ⟨grown_drew HGD.out, HXD.out.drew, HRD.out.drew, HVD.out.drew, HWD.out.drew⟩ ?_
  rintro wx ⟨hgx, hbx, hbr, hbv, hrw⟩
  have HGX := Lib.hid hgx
  have HX := Lib.hid hbx
  have HR := Lib.hid hbr
  have HV := Lib.hid hbv
  have HW := Lib.hid hrw
  have x0 : wx.cell? ⟨g + 1, 0, none⟩ = some (.slice an ss.length cn) := hbv.cell rfl
  have l1 : wx.cell? ⟨w.heap.size, 1, none⟩ = some (.slice (some ⟨gl, 0, none⟩) ls.length cl) := hbx.cell rfl
  have hszx : w.heap.size + 2 ≤ wx.heap.size := by have h1 := hbr.lt; omega
  have HTX := Lib.hid (HLT.out.kept hgx (by simp))
  clear hgx hbx hbr hbv hrw HGD HXD HRD HVD HWD
  simp only [List.take_succ_cons, List.take_zero, List.drop_succ_cons, List.drop_zero]
  repeat still_step
  refine wpStill_nil ?_
  clear x0 l1
  go_wp2_with (first | (at_builtin; go_must (refine wpList_append_row2 rfl _ _ 22 rfl 9 i9 (.string ⟨#[]⟩) 16 Try.underlying22 hi9 hz0 hz1 hz2 rfl (w.heap.size + 2) _ (strs ss) rfl HW.out ⟨gl, 0, none⟩ 0 cl (strs T) rfl (by rw [strs_len]; exact hTl) HTX.out (strs_one _) (by rw [strs_len]; unfold maxLen; omega) (by rw [strs_len]; omega) hszx ?_); intro v2 w4 HR4 HG4 HO4; have hr4 := HR4.out; rw [show strs ss ++ strs T = strs (ss ++ T) from by simp [strs]] at hr4; obtain ⟨an3, cn3, rfl, -⟩ := hr4.lies; have HW4 := Lib.hid hr4; have HV4 := Lib.hid (HV.out.kept HG4.out (fun e => by have := HOW.out _ e.symm; omega)); have HRR := Lib.hid (HR.out.kept HG4.out (fun e => by have := (HW.out.lt _ e.symm).1; omega)); have HX4 := Lib.hid (HX.out.kept HG4.out (fun e => by have := (HW.out.lt _ e.symm).1; omega)); have HGW4 := Lib.hid (show w.grownBy w4 none from grown_own HGX.out HG4.out (fun q hq => by have := (HW.out.lt q hq).1; omega)); have z0 : w4.cell? ⟨g + 1, 0, none⟩ = some (.slice an ss.length cn) := HV4.out.cell rfl; have z1 := HV4.out.frozen 0; have z2 : w4.cell? ⟨g + 1, 1, none⟩ = some (.slice (some ⟨g, 0, none⟩) 0 0) := HV4.out.cell rfl; have z3 : w4.cell? ⟨w.heap.size, 1, none⟩ = some (.slice (some ⟨gl, 0, none⟩) ls.length cl) := HX4.out.cell rfl; have y0 : w4.cell? ⟨w.heap.size + 1, 0, none⟩ = some (.slice none 0 0) := HRR.out.cell rfl; have y1 : w4.cell? ⟨w.heap.size + 1, 1, none⟩ = some (.slice none 0 0) := HRR.out.cell rfl; have y2 := HRR.out.frozen 0; have y3 := HRR.out.frozen 1; clear hr4))
  all_goals
    have hrow4 := HW4.out
    have ho := HO4.out
    rw [HLE.out] at hrow4 ho
    have hVl := HV.out.lt
    have hsA := grown_set (grown_refl w4 (some (g + 1))) 0 (.slice an3 (ss.length) cn3)
    have hrA := HRR.out.kept hsA (by intro e; have := Option.some.inj e; omega)
    have hrowA := hrow4.kept hsA (fun q hq e => by
      have := Option.some.inj e
      rcases ho q hq with h | h
      · have := HOW.out q h; omega
      · omega)
    have hgA := grown_into HGW4.out hsA (by omega)
    have hsB := grown_set (grown_set (grown_refl (w4.setCell ⟨g + 1, 0, none⟩ (.slice an3 (ss.length) cn3)) (some (w.heap.size + 1))) 0 (.slice an3 (ss.length) cn3)) 1 (.slice (some ⟨g, 0, none⟩) 0 0)
    have hrB := (hrA.set 0 (.slice an3 (ss.length) cn3)).set 1 (.slice (some ⟨g, 0, none⟩) 0 0)
    have hrowB := hrowA.kept hsB (fun q hq e => by have h1 := (hrowA.lt q hq).1; have := Option.some.inj e; omega)
    have hgB := grown_into hgA hsB (by omega)
    exact ⟨rfl, _, results_blk1 Try.results16 _ _ (w.heap.size + 1) 26 _ _ hrB Try.underlying26 rfl info26 rfl, _, _, _, rfl, hrowB.base (by omega), hgB⟩

set_option maxRecDepth 100000 in
set_option maxHeartbeats 4000000 in
theorem crash_A3 (w : World) (gs cs gl cl : Nat) (ss ls : List ByteArray) (hs : At w ⟨gs, 0, none⟩ ss) (hl : At w ⟨gl, 0, none⟩ ls) (n1 : ss.length ≤ 1048576) (n2 : ls.length ≤ 1048576) (hcl : ls.length ≤ cl) (whole torn : Int) (T : List ByteArray) (hw : (ls.length : Int) < whole) (hTl : T.length = ls.length) (hLT : At w ⟨gl, 0, none⟩ T) :
    Calls Try.prog 16 #[.agg #[.slice (some ⟨gs, 0, none⟩) ss.length cs, .slice (some ⟨gl, 0, none⟩) ls.length cl], .int .i64 whole, .int .i64 torn] w fun e w' => ∃ v a2 c2, e = .returned (.agg #[v, .slice a2 0 c2]) ∧ Row w' w.heap.size v (strs (ss ++ T)) ∧ w.grownBy w' none := by
  have HG := Lib.hid (show w.grownBy (((w.alloc (Obj.cells #[Value.slice (some ⟨gs, 0, none⟩) ss.length cs, .slice (some ⟨gl, 0, none⟩) ls.length cl] 26)).alloc (Obj.cells #[Value.slice none 0 0, .slice none 0 0] 26)).alloc (Obj.cells #[] 9)) none from grown_alloc (grown_alloc (grown_alloc (grown_refl _ _) _) _) _)
  have HBX := Lib.hid (show Blk (((w.alloc (Obj.cells #[Value.slice (some ⟨gs, 0, none⟩) ss.length cs, .slice (some ⟨gl, 0, none⟩) ls.length cl] 26)).alloc (Obj.cells #[Value.slice none 0 0, .slice none 0 0] 26)).alloc (Obj.cells #[] 9)) w.heap.size 26 [Value.slice (some ⟨gs, 0, none⟩) ss.length cs, .slice (some ⟨gl, 0, none⟩) ls.length cl] from ((Blk.new w 26 _).alloc _).alloc _)
  have HBR := Lib.hid (show Blk (((w.alloc (Obj.cells #[Value.slice (some ⟨gs, 0, none⟩) ss.length cs, .slice (some ⟨gl, 0, none⟩) ls.length cl] 26)).alloc (Obj.cells #[Value.slice none 0 0, .slice none 0 0] 26)).alloc (Obj.cells #[] 9)) (w.heap.size + 1) 26 [Value.slice none 0 0, .slice none 0 0] from by
    have := (Blk.new (w.alloc (Obj.cells #[Value.slice (some ⟨gs, 0, none⟩) ss.length cs, .slice (some ⟨gl, 0, none⟩) ls.length cl] 26)) 26 [Value.slice none 0 0, .slice none 0 0]).alloc (Obj.cells #[] 9)
    simpa using this)
  have HR0 := Lib.hid (show Row (((w.alloc (Obj.cells #[Value.slice (some ⟨gs, 0, none⟩) ss.length cs, .slice (some ⟨gl, 0, none⟩) ls.length cl] 26)).alloc (Obj.cells #[Value.slice none 0 0, .slice none 0 0] 26)).alloc (Obj.cells #[] 9)) (w.heap.size + 2) (.slice (some ⟨w.heap.size + 1 + 1, 0, none⟩) 0 0) (strs []) from by
    have := Row.lit ((w.alloc (Obj.cells #[Value.slice (some ⟨gs, 0, none⟩) ss.length cs, .slice (some ⟨gl, 0, none⟩) ls.length cl] 26)).alloc (Obj.cells #[Value.slice none 0 0, .slice none 0 0] 26)) 9 []
    simp only [World.size_alloc] at this
    exact this.base (by omega))
  have HS := Lib.hid hs
  have HL := Lib.hid hl
  obtain ⟨i9, hi9, hz0, hz1, hz2⟩ := info_parts info9g
  clear hs hl
  have q1 : ¬ whole < 0 := by omega
  have hmc : (ls.length : Int) ≤ cl := by omega
  have q3 : ¬ (ls.length : Int) < ls.length := by omega
  have HLT := Lib.hid hLT
  have HLE := Lib.hid (show (ss ++ T).length = ss.length + ls.length from by simp [hTl])
  clear hLT
  go_enter Try.func16, Try.ntmps16
  go_wp2_with (first | (at_builtin; go_must (refine wpList_append_row2 rfl _ _ 22 rfl 9 i9 (.string ⟨#[]⟩) 16 Try.underlying22 hi9 hz0 hz1 hz2 rfl (w.heap.size + 2) _ (strs []) rfl HR0.out ⟨gs, 0, none⟩ ss.length cs (strs ss) rfl (strs_len _) (HS.out.kept HG.out (by simp)) (strs_one _) (by rw [strs_len]; simp only [List.length_nil]; unfold maxLen; omega) (by rw [strs_len]; simp only [List.length_nil]; omega) (by simp) ?_); intro v1 C1 HR1 HG1 HO1; obtain ⟨an, cn, rfl, -⟩ := (show Row C1 _ v1 (strs ss) from HR1.out).lies; have dD : ((C1.alloc (Obj.cells #[] 9)).alloc (Obj.cells #[Value.slice an ss.length cn, Value.slice (some ⟨C1.heap.size, 0, none⟩) 0 0] 26)).cell? ⟨w.heap.size, 1, none⟩ = some (.slice (some ⟨gl, 0, none⟩) ls.length cl) := (((HBX.out.kept HG1.out (fun e => by have := (HR0.out.lt _ e.symm).1; omega)).alloc _).alloc _).cell rfl))
  have HGD := Lib.hid (show w.grownBy ((C1.alloc (Obj.cells #[] 9)).alloc (Obj.cells #[Value.slice an ss.length cn, Value.slice (some ⟨C1.heap.size, 0, none⟩) 0 0] 26)) none from grown_alloc (grown_alloc (grown_own HG.out HG1.out (fun q hq => by have := (HR0.out.lt q hq).1; omega)) _) _)
  have HXD := Lib.hid (show Blk ((C1.alloc (Obj.cells #[] 9)).alloc (Obj.cells #[Value.slice an ss.length cn, Value.slice (some ⟨C1.heap.size, 0, none⟩) 0 0] 26)) w.heap.size 26 [Value.slice (some ⟨gs, 0, none⟩) ss.length cs, .slice (some ⟨gl, 0, none⟩) ls.length cl] from ((HBX.out.kept HG1.out (fun e => by have := (HR0.out.lt _ e.symm).1; omega)).alloc _).alloc _)
  have HRD := Lib.hid (show Blk ((C1.alloc (Obj.cells #[] 9)).alloc (Obj.cells #[Value.slice an ss.length cn, Value.slice (some ⟨C1.heap.size, 0, none⟩) 0 0] 26)) (w.heap.size + 1) 26 [Value.slice none 0 0, .slice none 0 0] from ((HBR.out.kept HG1.out (fun e => by have := (HR0.out.lt _ e.symm).1; omega)).alloc _).alloc _)
  have HVD := Lib.hid (show Blk ((C1.alloc (Obj.cells #[] 9)).alloc (Obj.cells #[Value.slice an ss.length cn, Value.slice (some ⟨C1.heap.size, 0, none⟩) 0 0] 26)) (C1.heap.size + 1) 26 [Value.slice an ss.length cn, .slice (some ⟨C1.heap.size, 0, none⟩) 0 0] from by
    have := Blk.new (C1.alloc (Obj.cells #[] 9)) 26 [Value.slice an ss.length cn, .slice (some ⟨C1.heap.size, 0, none⟩) 0 0]
    simpa using this)
  have HWD := Lib.hid (show Row ((C1.alloc (Obj.cells #[] 9)).alloc (Obj.cells #[Value.slice an ss.length cn, Value.slice (some ⟨C1.heap.size, 0, none⟩) 0 0] 26)) (w.heap.size + 2) (.slice an ss.length cn) (strs ss) from ((show Row C1 (w.heap.size + 2) (.slice an ss.length cn) (strs ss) from HR1.out).alloc _).alloc _)
  have HOW := Lib.hid (show ∀ q, (Value.slice an ss.length cn).ownBlock = some q → q < C1.heap.size from fun q hq => ((show Row C1 (w.heap.size + 2) (.slice an ss.length cn) (strs ss) from HR1.out).lt q hq).2)
  have hgC : w.heap.size + 2 ≤ C1.heap.size := by have h1 := (HBR.out.kept HG1.out (fun e => by have := (HR0.out.lt _ e.symm).1; omega)).lt; omega
  clear HR1 HO1 HR0 HBX HBR HG dD
  generalize ((C1.alloc (Obj.cells #[] 9)).alloc (Obj.cells #[Value.slice an ss.length cn, Value.slice (some ⟨C1.heap.size, 0, none⟩) 0 0] 26)) = DD at HGD HXD HRD HVD HWD ⊢
  generalize C1.heap.size = g at HVD HOW hgC ⊢
  refine wp_still_tail 6 (by kernel_rfl) (by kernel_rfl) (fun wx => w.grownBy wx none ∧ Blk wx w.heap.size 26 [Value.slice (some ⟨gs, 0, none⟩) ss.length cs, .slice (some ⟨gl, 0, none⟩) ls.length cl] ∧ Blk wx (w.heap.size + 1) 26 [Value.slice none 0 0, .slice none 0 0] ∧ Blk wx (g + 1) 26 [Value.slice an ss.length cn, .slice (some ⟨g, 0, none⟩) 0 0] ∧ Row wx (w.heap.size + 2) (.slice an ss.length cn) (strs ss)) ⟨grown_drew HGD.out, HXD.out.drew, HRD.out.drew, HVD.out.drew, HWD.out.drew⟩ ?_
  rintro wx ⟨hgx, hbx, hbr, hbv, hrw⟩
  have HGX := Lib.hid hgx
  have HX := Lib.hid hbx
  have HR := Lib.hid hbr
  have HV := Lib.hid hbv
  have HW := Lib.hid hrw
  have x0 : wx.cell? ⟨g + 1, 0, none⟩ = some (.slice an ss.length cn) := hbv.cell rfl
  have l1 : wx.cell? ⟨w.heap.size, 1, none⟩ = some (.slice (some ⟨gl, 0, none⟩) ls.length cl) := hbx.cell rfl
  have hszx : w.heap.size + 2 ≤ wx.heap.size := by have h1 := hbr.lt; omega
  have HTX := Lib.hid (HLT.out.kept hgx (by simp))
  clear hgx hbx hbr hbv hrw HGD HXD HRD HVD HWD
  simp only [List.take_succ_cons, List.take_zero, List.drop_succ_cons, List.drop_zero]
  repeat still_step
  refine wpStill_nil ?_
  clear x0 l1
  go_wp2_with (first | (at_builtin; go_must (refine wpList_append_row2 rfl _ _ 22 rfl 9 i9 (.string ⟨#[]⟩) 16 Try.underlying22 hi9 hz0 hz1 hz2 rfl (w.heap.size + 2) _ (strs ss) rfl HW.out ⟨gl, 0, none⟩ ls.length cl (strs T) rfl (by rw [strs_len]; exact hTl) HTX.out (strs_one _) (by rw [strs_len]; unfold maxLen; omega) (by rw [strs_len]; omega) hszx ?_); intro v2 w4 HR4 HG4 HO4; have hr4 := HR4.out; rw [show strs ss ++ strs T = strs (ss ++ T) from by simp [strs]] at hr4; obtain ⟨an3, cn3, rfl, -⟩ := hr4.lies; have HW4 := Lib.hid hr4; have HV4 := Lib.hid (HV.out.kept HG4.out (fun e => by have := HOW.out _ e.symm; omega)); have HRR := Lib.hid (HR.out.kept HG4.out (fun e => by have := (HW.out.lt _ e.symm).1; omega)); have HX4 := Lib.hid (HX.out.kept HG4.out (fun e => by have := (HW.out.lt _ e.symm).1; omega)); have HGW4 := Lib.hid (show w.grownBy w4 none from grown_own HGX.out HG4.out (fun q hq => by have := (HW.out.lt q hq).1; omega)); have z0 : w4.cell? ⟨g + 1, 0, none⟩ = some (.slice an ss.length cn) := HV4.out.cell rfl; have z1 := HV4.out.frozen 0; have z2 : w4.cell? ⟨g + 1, 1, none⟩ = some (.slice (some ⟨g, 0, none⟩) 0 0) := HV4.out.cell rfl; have z3 : w4.cell? ⟨w.heap.size, 1, none⟩ = some (.slice (some ⟨gl, 0, none⟩) ls.length cl) := HX4.out.cell rfl; have y0 : w4.cell? ⟨w.heap.size + 1, 0, none⟩ = some (.slice none 0 0) := HRR.out.cell rfl; have y1 : w4.cell? ⟨w.heap.size + 1, 1, none⟩ = some (.slice none 0 0) := HRR.out.cell rfl; have y2 := HRR.out.frozen 0; have y3 := HRR.out.frozen 1; clear hr4))
  all_goals
    have hrow4 := HW4.out
    have ho := HO4.out
    rw [HLE.out] at hrow4 ho
    have hVl := HV.out.lt
    have hsA := grown_set (grown_refl w4 (some (g + 1))) 0 (.slice an3 (ss.length + ls.length) cn3)
    have hrA := HRR.out.kept hsA (by intro e; have := Option.some.inj e; omega)
    have hrowA := hrow4.kept hsA (fun q hq e => by
      have := Option.some.inj e
      rcases ho q hq with h | h
      · have := HOW.out q h; omega
      · omega)
    have hgA := grown_into HGW4.out hsA (by omega)
    have hsB := grown_set (grown_set (grown_refl (w4.setCell ⟨g + 1, 0, none⟩ (.slice an3 (ss.length + ls.length) cn3)) (some (w.heap.size + 1))) 0 (.slice an3 (ss.length + ls.length) cn3)) 1 (.slice (some ⟨g, 0, none⟩) 0 0)
    have hrB := (hrA.set 0 (.slice an3 (ss.length + ls.length) cn3)).set 1 (.slice (some ⟨g, 0, none⟩) 0 0)
    have hrowB := hrowA.kept hsB (fun q hq e => by have h1 := (hrowA.lt q hq).1; have := Option.some.inj e; omega)
    have hgB := grown_into hgA hsB (by omega)
    exact ⟨rfl, _, results_blk1 Try.results16 _ _ (w.heap.size + 1) 26 _ _ hrB Try.underlying26 rfl info26 rfl, _, _, _, rfl, hrowB.base (by omega), hgB⟩
end Go.Proofs.Ytpmjinlbfddmmaa
