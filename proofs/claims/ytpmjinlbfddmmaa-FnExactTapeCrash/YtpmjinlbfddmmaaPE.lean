/- A tape at which power fails, by the document: a piece is torn. -/
import Derived.Test.YtpmjinlbfddmmaaP6
namespace Go.Proofs.Ytpmjinlbfddmmaa
open Go.RowKit

set_option maxRecDepth 100000 in
set_option maxHeartbeats 4000000 in
theorem crash_B2c (w : World) (gs cs gl cl : Nat) (ss ls : List ByteArray) (hs : At w ⟨gs, 0, none⟩ ss) (hl : At w ⟨gl, 0, none⟩ ls) (n1 : ss.length ≤ 1048576) (n2 : ls.length ≤ 1048576) (hcl : ls.length ≤ cl) (whole torn : Int) (T : List ByteArray) (m : Nat) (hw : whole = (m : Int)) (hTl : T.length = m) (hLT : At w ⟨gl, 0, none⟩ T) (hq : (m : Int) < ls.length) (x : ByteArray) (hx : w.cell? ⟨gl, m, none⟩ = some (.string x)) (n : Nat) (ht : torn = (n : Int)) (hn0 : 0 < n) (hn : n < x.size) :
    Calls Try.prog 16 #[.agg #[.slice (some ⟨gs, 0, none⟩) ss.length cs, .slice (some ⟨gl, 0, none⟩) ls.length cl], .int .i64 whole, .int .i64 torn] w fun e w' => ∃ v a2 c2, e = .returned (.agg #[v, .slice a2 0 c2]) ∧ Row w' w.heap.size v (strs (ss ++ T ++ [x.extract 0 n])) ∧ w.grownBy w' none := by
  have HG := Lib.hid (show w.grownBy (((w.alloc (Obj.cells #[Value.slice (some ⟨gs, 0, none⟩) ss.length cs, .slice (some ⟨gl, 0, none⟩) ls.length cl] 26)).alloc (Obj.cells #[Value.slice none 0 0, .slice none 0 0] 26)).alloc (Obj.cells #[] 9)) none from grown_alloc (grown_alloc (grown_alloc (grown_refl _ _) _) _) _)
  have HBX := Lib.hid (show Blk (((w.alloc (Obj.cells #[Value.slice (some ⟨gs, 0, none⟩) ss.length cs, .slice (some ⟨gl, 0, none⟩) ls.length cl] 26)).alloc (Obj.cells #[Value.slice none 0 0, .slice none 0 0] 26)).alloc (Obj.cells #[] 9)) w.heap.size 26 [Value.slice (some ⟨gs, 0, none⟩) ss.length cs, .slice (some ⟨gl, 0, none⟩) ls.length cl] from ((Blk.new w 26 _).alloc _).alloc _)
  have HBR := Lib.hid (show Blk (((w.alloc (Obj.cells #[Value.slice (some ⟨gs, 0, none⟩) ss.length cs, .slice (some ⟨gl, 0, none⟩) ls.length cl] 26)).alloc (Obj.cells #[Value.slice none 0 0, .slice none 0 0] 26)).alloc (Obj.cells #[] 9)) (w.heap.size + 1) 26 [Value.slice none 0 0, .slice none 0 0] from by
    have := (Blk.new (w.alloc (Obj.cells #[Value.slice (some ⟨gs, 0, none⟩) ss.length cs, .slice (some ⟨gl, 0, none⟩) ls.length cl] 26)) 26 [Value.slice none 0 0, .slice none 0 0]).alloc (Obj.cells #[] 9)
    simpa using this)
  have HR0 := Lib.hid (show Row (((w.alloc (Obj.cells #[Value.slice (some ⟨gs, 0, none⟩) ss.length cs, .slice (some ⟨gl, 0, none⟩) ls.length cl] 26)).alloc (Obj.cells #[Value.slice none 0 0, .slice none 0 0] 26)).alloc (Obj.cells #[] 9)) (w.heap.size + 2) (.slice (some ⟨w.heap.size + 1 + 1, 0, none⟩) 0 0) (strs []) from by
    have := Row.lit ((w.alloc (Obj.cells #[Value.slice (some ⟨gs, 0, none⟩) ss.length cs, .slice (some ⟨gl, 0, none⟩) ls.length cl] 26)).alloc (Obj.cells #[Value.slice none 0 0, .slice none 0 0] 26)) 9 []
    simp only [World.size_alloc] at this
    exact this.base (by omega))
  have HS := Lib.hid hs
  have HL := Lib.hid hl
  obtain ⟨i9, hi9, hz0, hz1, hz2⟩ := info_parts info9g
  clear hs hl
  subst hw
  have q1 : ¬ (m : Int) < 0 := by omega
  have hmc : (m : Int) ≤ cl := by omega
  have q2 : ¬ (ls.length : Int) < (m : Int) := by omega
  subst ht
  have k1 : (0 : Int) < (n : Int) := by omega
  have k2 : (n : Int) < x.size := by omega
  have k3 : (n : Int) ≤ x.size := by omega
  have HXA := Lib.hid hx
  clear hx
  have HLT := Lib.hid hLT
  have HLE := Lib.hid (show (ss ++ T).length = ss.length + m from by simp [hTl])
  clear hLT
  have HLF := Lib.hid (show (ss ++ T ++ [x.extract 0 n]).length = ss.length + (m + 1) from by simp [hTl])
  go_enter Try.func16, Try.ntmps16
  go_wp2_with (first | (at_builtin; go_must (refine wpList_append_row2 rfl _ _ 22 rfl 9 i9 (.string ⟨#[]⟩) 16 Try.underlying22 hi9 hz0 hz1 hz2 rfl (w.heap.size + 2) _ (strs []) rfl HR0.out ⟨gs, 0, none⟩ ss.length cs (strs ss) rfl (strs_len _) (HS.out.kept HG.out (by simp)) (strs_one _) (by rw [strs_len]; simp only [List.length_nil]; unfold maxLen; omega) (by rw [strs_len]; simp only [List.length_nil]; omega) (by simp) ?_); intro v1 C1 HR1 HG1 HO1; obtain ⟨an, cn, rfl, -⟩ := (show Row C1 _ v1 (strs ss) from HR1.out).lies; have dD : ((C1.alloc (Obj.cells #[] 9)).alloc (Obj.cells #[Value.slice an ss.length cn, Value.slice (some ⟨C1.heap.size, 0, none⟩) 0 0] 26)).cell? ⟨w.heap.size, 1, none⟩ = some (.slice (some ⟨gl, 0, none⟩) ls.length cl) := (((HBX.out.kept HG1.out (fun e => by have := (HR0.out.lt _ e.symm).1; omega)).alloc _).alloc _).cell rfl))
  have HGD := Lib.hid (show w.grownBy ((C1.alloc (Obj.cells #[] 9)).alloc (Obj.cells #[Value.slice an ss.length cn, Value.slice (some ⟨C1.heap.size, 0, none⟩) 0 0] 26)) none from grown_alloc (grown_alloc (grown_own HG.out HG1.out (fun q hq => by have := (HR0.out.lt q hq).1; omega)) _) _)
  have HXD := Lib.hid (show Blk ((C1.alloc (Obj.cells #[] 9)).alloc (Obj.cells #[Value.slice an ss.length cn, Value.slice (some ⟨C1.heap.size, 0, none⟩) 0 0] 26)) w.heap.size 26 [Value.slice (some ⟨gs, 0, none⟩) ss.length cs, .slice (some ⟨gl, 0, none⟩) ls.length cl] from ((HBX.out.kept HG1.out (fun e => by have := (HR0.out.lt _ e.symm).1; omega)).alloc _).alloc _)
  have HRD := Lib.hid (show Blk ((C1.alloc (Obj.cells #[] 9)).alloc (Obj.cells #[Value.slice an ss.length cn, Value.slice (some ⟨C1.heap.size, 0, none⟩) 0 0] 26)) (w.heap.size + 1) 26 [Value.slice none 0 0, .slice none 0 0] from ((HBR.out.kept HG1.out (fun e => by have := (HR0.out.lt _ e.symm).1; omega)).alloc _).alloc _)
  have HVD := Lib.hid (show Blk ((C1.alloc (Obj.cells #[] 9)).alloc (Obj.cells #[Value.slice an ss.length cn, Value.slice (some ⟨C1.heap.size, 0, none⟩) 0 0] 26)) (C1.heap.size + 1) 26 [Value.slice an ss.length cn, .slice (some ⟨C1.heap.size, 0, none⟩) 0 0] from by
    have := Blk.new (C1.alloc (Obj.cells #[] 9)) 26 [Value.slice an ss.length cn, .slice (some ⟨C1.heap.size, 0, none⟩) 0 0]
    simpa using this)
  have HWD := Lib.hid (show Row ((C1.alloc (Obj.cells #[] 9)).alloc (Obj.cells #[Value.slice an ss.length cn, Value.slice (some ⟨C1.heap.size, 0, none⟩) 0 0] 26)) (w.heap.size + 2) (.slice an ss.length cn) (strs ss) from ((show Row C1 (w.heap.size + 2) (.slice an ss.length cn) (strs ss) from HR1.out).alloc _).alloc _)
  have HOW := Lib.hid (show ∀ q, (Value.slice an ss.length cn).ownBlock = some q → q < C1.heap.size from fun q hq => ((show Row C1 (w.heap.size + 2) (.slice an ss.length cn) (strs ss) from HR1.out).lt q hq).2)
  have hgC : w.heap.size + 2 ≤ C1.heap.size := by have h1 := (HBR.out.kept HG1.out (fun e => by have := (HR0.out.lt _ e.symm).1; omega)).lt; omega
  clear HR1 HO1 HR0 HBX HBR HG dD
  generalize ((C1.alloc (Obj.cells #[] 9)).alloc (Obj.cells #[Value.slice an ss.length cn, Value.slice (some ⟨C1.heap.size, 0, none⟩) 0 0] 26)) = DD at HGD HXD HRD HVD HWD ⊢
  generalize C1.heap.size = g at HVD HOW hgC ⊢
  refine wp_still_tail 6 (by kernel_rfl) (by kernel_rfl) (fun wx => w.grownBy wx none ∧ Blk wx w.heap.size 26 [Value.slice (some ⟨gs, 0, none⟩) ss.length cs, .slice (some ⟨gl, 0, none⟩) ls.length cl] ∧ Blk wx (w.heap.size + 1) 26 [Value.slice none 0 0, .slice none 0 0] ∧ Blk wx (g + 1) 26 [Value.slice an ss.length cn, .slice (some ⟨g, 0, none⟩) 0 0] ∧ Row wx (w.heap.size + 2) (.slice an ss.length cn) (strs ss)) ⟨grown_drew HGD.out, HXD.out.drew, HRD.out.drew, HVD.out.drew, HWD.out.drew⟩ ?_
  rintro wx ⟨hgx, hbx, hbr, hbv, hrw⟩
  have HGX := Lib.hid hgx
  have HX := Lib.hid hbx
  have HR := Lib.hid hbr
  have HV := Lib.hid hbv
  have HW := Lib.hid hrw
  have x0 : wx.cell? ⟨g + 1, 0, none⟩ = some (.slice an ss.length cn) := hbv.cell rfl
  have l1 : wx.cell? ⟨w.heap.size, 1, none⟩ = some (.slice (some ⟨gl, 0, none⟩) ls.length cl) := hbx.cell rfl
  have hszx : w.heap.size + 2 ≤ wx.heap.size := by have h1 := hbr.lt; omega
  have HTX := Lib.hid (HLT.out.kept hgx (by simp))
  clear hgx hbx hbr hbv hrw HGD HXD HRD HVD HWD
  simp only [List.take_succ_cons, List.take_zero, List.drop_succ_cons, List.drop_zero]
  repeat still_step
  refine wpStill_nil ?_
  clear x0 l1
  go_wp2_with (first | (at_builtin; refine wpList_append_row2 rfl _ _ 22 rfl 9 i9 (.string ⟨#[]⟩) 16 Try.underlying22 hi9 hz0 hz1 hz2 rfl (w.heap.size + 2) _ (strs ss) rfl HW.out ⟨gl, 0, none⟩ m cl (strs T) rfl (by rw [strs_len]; exact hTl) HTX.out (strs_one _) (by rw [strs_len]; unfold maxLen; omega) (by rw [strs_len]; omega) hszx ?_; intro v2 w4 HR4 HG4 HO4; have hr4 := HR4.out; rw [show strs ss ++ strs T = strs (ss ++ T) from by simp [strs]] at hr4; obtain ⟨an3, cn3, rfl, -⟩ := hr4.lies; have HW4 := Lib.hid hr4; have HV4 := Lib.hid (HV.out.kept HG4.out (fun e => by have := HOW.out _ e.symm; omega)); have HRR := Lib.hid (HR.out.kept HG4.out (fun e => by have := (HW.out.lt _ e.symm).1; omega)); have HX4 := Lib.hid (HX.out.kept HG4.out (fun e => by have := (HW.out.lt _ e.symm).1; omega)); have HGW4 := Lib.hid (show w.grownBy w4 none from grown_own HGX.out HG4.out (fun q hq => by have := (HW.out.lt q hq).1; omega)); have z0 : w4.cell? ⟨g + 1, 0, none⟩ = some (.slice an ss.length cn) := HV4.out.cell rfl; have z1 := HV4.out.frozen 0; have z2 : w4.cell? ⟨g + 1, 1, none⟩ = some (.slice (some ⟨g, 0, none⟩) 0 0) := HV4.out.cell rfl; have z3 : w4.cell? ⟨w.heap.size, 1, none⟩ = some (.slice (some ⟨gl, 0, none⟩) ls.length cl) := HX4.out.cell rfl; have y0 : w4.cell? ⟨w.heap.size + 1, 0, none⟩ = some (.slice none 0 0) := HRR.out.cell rfl; have y1 : w4.cell? ⟨w.heap.size + 1, 1, none⟩ = some (.slice none 0 0) := HRR.out.cell rfl; have y2 := HRR.out.frozen 0; have y3 := HRR.out.frozen 1; clear hr4; have hrow4 := HW4.out; have ho := HO4.out; rw [HLE.out] at hrow4 ho; have hVl := HV.out.lt; have HSA := Lib.hid (grown_set (grown_refl w4 (some (g + 1))) 0 (.slice an3 (ss.length + m) cn3)); have HRW5 := Lib.hid (hrow4.kept HSA.out (fun q hq e => by have := Option.some.inj e; rcases ho q hq with h | h <;> (first | omega | (have := HOW.out q h; omega)))); have HOV := Lib.hid (show ∀ q, (Value.slice an3 (ss.length + m) cn3).ownBlock = some q → q ≠ g + 1 from fun q hq => by rcases ho q hq with h | h <;> (first | omega | (have := HOW.out q h; omega))); have HV5 := Lib.hid (HV4.out.set 0 (.slice an3 (ss.length + m) cn3)); have HRR5 := Lib.hid (HRR.out.kept HSA.out (by intro e; have := Option.some.inj e; omega)); have HX5 := Lib.hid (HX4.out.kept HSA.out (by intro e; have := Option.some.inj e; omega)); have HGW5 := Lib.hid (grown_into (row := none) HGW4.out HSA.out (by omega)); have hx5 : (w4.setCell ⟨g + 1, 0, none⟩ (.slice an3 (ss.length + m) cn3)).cell? ⟨gl, m, none⟩ = some (.string x) := HGW5.out.cell HXA.out (by simp); have hx6 : w4.cell? ⟨gl, m, none⟩ = some (.string x) := HGW4.out.cell HXA.out (by simp); have hz5 : (w4.setCell ⟨g + 1, 0, none⟩ (.slice an3 (ss.length + m) cn3)).cell? ⟨w.heap.size, 1, none⟩ = some (.slice (some ⟨gl, 0, none⟩) ls.length cl) := HX5.out.cell rfl; have HNEW := Lib.hid (show ∀ j v, (strs [x.extract 0 n])[j]? = some v → ((w4.setCell ⟨g + 1, 0, none⟩ (.slice an3 (ss.length + m) cn3)).alloc (Obj.cells #[Value.string (x.extract 0 n)] 9)).cell? ((⟨w4.heap.size, 0, none⟩ : Addr).add j) = some v from (by have hh := news_new (w4.setCell ⟨g + 1, 0, none⟩ (.slice an3 (ss.length + m) cn3)) 9 (strs [x.extract 0 n]); rw [show (w4.setCell ⟨g + 1, 0, none⟩ (.slice an3 (ss.length + m) cn3)).heap.size = w4.heap.size from by simp [World.setCell]] at hh; exact hh)); clear hrow4 ho) | (at_builtin; go_must (refine wpList_append_row2 rfl _ _ 22 rfl 9 i9 (.string ⟨#[]⟩) 16 Try.underlying22 hi9 hz0 hz1 hz2 rfl (w.heap.size + 2) _ (strs (ss ++ T)) rfl (HRW5.out.alloc _) ⟨_, 0, none⟩ 1 1 (strs [x.extract 0 n]) rfl rfl HNEW.out (strs_one _) (by rw [strs_len, HLE.out]; unfold maxLen; omega) (by rw [strs_len, HLE.out]; omega) (by have h1 := HRR.out.lt; simp; omega) ?_); intro v5 w6 HR6 HG6 HO6; have hr6 := HR6.out; rw [show strs (ss ++ T) ++ strs [x.extract 0 n] = strs (ss ++ T ++ [x.extract 0 n]) from by simp [strs]] at hr6; obtain ⟨an6, cn6, rfl, -⟩ := hr6.lies; have HW6 := Lib.hid hr6; have HV6 := Lib.hid ((HV5.out.alloc _).kept HG6.out (fun e => HOV.out _ e.symm rfl)); have HRR6 := Lib.hid ((HRR5.out.alloc _).kept HG6.out (fun e => by have := (HRW5.out.lt _ e.symm).1; omega)); have HGW6 := Lib.hid (show w.grownBy w6 none from grown_own (grown_alloc HGW5.out _) HG6.out (fun q hq => by have := (HRW5.out.lt q hq).1; omega)); have t0 : w6.cell? ⟨g + 1, 0, none⟩ = some (.slice an3 (ss.length + m) cn3) := HV6.out.cell rfl; have t1 := HV6.out.frozen 0; have t2 : w6.cell? ⟨g + 1, 1, none⟩ = some (.slice (some ⟨g, 0, none⟩) 0 0) := HV6.out.cell rfl; have u0 : w6.cell? ⟨w.heap.size + 1, 0, none⟩ = some (.slice none 0 0) := HRR6.out.cell rfl; have u1 : w6.cell? ⟨w.heap.size + 1, 1, none⟩ = some (.slice none 0 0) := HRR6.out.cell rfl; have u2 := HRR6.out.frozen 0; have u3 := HRR6.out.frozen 1; clear hr6))
  all_goals
    have hrow6 := HW6.out
    have ho := HO6.out
    rw [HLF.out] at hrow6 ho
    have hVl := HV.out.lt
    have hsA := grown_set (grown_refl w6 (some (g + 1))) 0 (.slice an6 (ss.length + (m + 1)) cn6)
    have hrA := HRR6.out.kept hsA (by intro e; have := Option.some.inj e; omega)
    have hrowA := hrow6.kept hsA (fun q hq e => by
      have := Option.some.inj e
      rcases ho q hq with h | h
      · exact HOV.out q h this
      · have h1 := HV5.out.lt
        simp at h
        simp at h1
        omega)
    have hgA := grown_into HGW6.out hsA (by omega)
    have hsB := grown_set (grown_set (grown_refl (w6.setCell ⟨g + 1, 0, none⟩ (.slice an6 (ss.length + (m + 1)) cn6)) (some (w.heap.size + 1))) 0 (.slice an6 (ss.length + (m + 1)) cn6)) 1 (.slice (some ⟨g, 0, none⟩) 0 0)
    have hrB := (hrA.set 0 (.slice an6 (ss.length + (m + 1)) cn6)).set 1 (.slice (some ⟨g, 0, none⟩) 0 0)
    have hrowB := hrowA.kept hsB (fun q hq e => by have h1 := (hrowA.lt q hq).1; have := Option.some.inj e; omega)
    have hgB := grown_into hgA hsB (by omega)
    exact ⟨rfl, _, results_blk1 Try.results16 _ _ (w.heap.size + 1) 26 _ _ hrB Try.underlying26 rfl info26 rfl, _, _, _, rfl, hrowB.base (by omega), hgB⟩

set_option maxRecDepth 100000 in
set_option maxHeartbeats 4000000 in
theorem crash_B2f (w : World) (gs cs gl cl : Nat) (ss ls : List ByteArray) (hs : At w ⟨gs, 0, none⟩ ss) (hl : At w ⟨gl, 0, none⟩ ls) (n1 : ss.length ≤ 1048576) (n2 : ls.length ≤ 1048576) (hcl : ls.length ≤ cl) (whole torn : Int) (T : List ByteArray) (m : Nat) (hw : whole = (m : Int)) (hTl : T.length = m) (hLT : At w ⟨gl, 0, none⟩ T) (hq : (m : Int) < ls.length) (x : ByteArray) (hx : w.cell? ⟨gl, m, none⟩ = some (.string x)) (hq2 : 0 < torn) (hn : (x.size : Int) ≤ torn) :
    Calls Try.prog 16 #[.agg #[.slice (some ⟨gs, 0, none⟩) ss.length cs, .slice (some ⟨gl, 0, none⟩) ls.length cl], .int .i64 whole, .int .i64 torn] w fun e w' => ∃ v a2 c2, e = .returned (.agg #[v, .slice a2 0 c2]) ∧ Row w' w.heap.size v (strs (ss ++ T ++ [x])) ∧ w.grownBy w' none := by
  have HG := Lib.hid (show w.grownBy (((w.alloc (Obj.cells #[Value.slice (some ⟨gs, 0, none⟩) ss.length cs, .slice (some ⟨gl, 0, none⟩) ls.length cl] 26)).alloc (Obj.cells #[Value.slice none 0 0, .slice none 0 0] 26)).alloc (Obj.cells #[] 9)) none from grown_alloc (grown_alloc (grown_alloc (grown_refl _ _) _) _) _)
  have HBX := Lib.hid (show Blk (((w.alloc (Obj.cells #[Value.slice (some ⟨gs, 0, none⟩) ss.length cs, .slice (some ⟨gl, 0, none⟩) ls.length cl] 26)).alloc (Obj.cells #[Value.slice none 0 0, .slice none 0 0] 26)).alloc (Obj.cells #[] 9)) w.heap.size 26 [Value.slice (some ⟨gs, 0, none⟩) ss.length cs, .slice (some ⟨gl, 0, none⟩) ls.length cl] from ((Blk.new w 26 _).alloc _).alloc _)
  have HBR := Lib.hid (show Blk (((w.alloc (Obj.cells #[Value.slice (some ⟨gs, 0, none⟩) ss.length cs, .slice (some ⟨gl, 0, none⟩) ls.length cl] 26)).alloc (Obj.cells #[Value.slice none 0 0, .slice none 0 0] 26)).alloc (Obj.cells #[] 9)) (w.heap.size + 1) 26 [Value.slice none 0 0, .slice none 0 0] from by
    have := (Blk.new (w.alloc (Obj.cells #[Value.slice (some ⟨gs, 0, none⟩) ss.length cs, .slice (some ⟨gl, 0, none⟩) ls.length cl] 26)) 26 [Value.slice none 0 0, .slice none 0 0]).alloc (Obj.cells #[] 9)
    simpa using this)
  have HR0 := Lib.hid (show Row (((w.alloc (Obj.cells #[Value.slice (some ⟨gs, 0, none⟩) ss.length cs, .slice (some ⟨gl, 0, none⟩) ls.length cl] 26)).alloc (Obj.cells #[Value.slice none 0 0, .slice none 0 0] 26)).alloc (Obj.cells #[] 9)) (w.heap.size + 2) (.slice (some ⟨w.heap.size + 1 + 1, 0, none⟩) 0 0) (strs []) from by
    have := Row.lit ((w.alloc (Obj.cells #[Value.slice (some ⟨gs, 0, none⟩) ss.length cs, .slice (some ⟨gl, 0, none⟩) ls.length cl] 26)).alloc (Obj.cells #[Value.slice none 0 0, .slice none 0 0] 26)) 9 []
    simp only [World.size_alloc] at this
    exact this.base (by omega))
  have HS := Lib.hid hs
  have HL := Lib.hid hl
  obtain ⟨i9, hi9, hz0, hz1, hz2⟩ := info_parts info9g
  clear hs hl
  subst hw
  have q1 : ¬ (m : Int) < 0 := by omega
  have hmc : (m : Int) ≤ cl := by omega
  have q2 : ¬ (ls.length : Int) < (m : Int) := by omega
  have k2 : ¬ torn < (x.size : Int) := by omega
  have HXA := Lib.hid hx
  clear hx
  have HLT := Lib.hid hLT
  have HLE := Lib.hid (show (ss ++ T).length = ss.length + m from by simp [hTl])
  clear hLT
  have HLF := Lib.hid (show (ss ++ T ++ [x]).length = ss.length + (m + 1) from by simp [hTl])
  go_enter Try.func16, Try.ntmps16
  go_wp2_with (first | (at_builtin; go_must (refine wpList_append_row2 rfl _ _ 22 rfl 9 i9 (.string ⟨#[]⟩) 16 Try.underlying22 hi9 hz0 hz1 hz2 rfl (w.heap.size + 2) _ (strs []) rfl HR0.out ⟨gs, 0, none⟩ ss.length cs (strs ss) rfl (strs_len _) (HS.out.kept HG.out (by simp)) (strs_one _) (by rw [strs_len]; simp only [List.length_nil]; unfold maxLen; omega) (by rw [strs_len]; simp only [List.length_nil]; omega) (by simp) ?_); intro v1 C1 HR1 HG1 HO1; obtain ⟨an, cn, rfl, -⟩ := (show Row C1 _ v1 (strs ss) from HR1.out).lies; have dD : ((C1.alloc (Obj.cells #[] 9)).alloc (Obj.cells #[Value.slice an ss.length cn, Value.slice (some ⟨C1.heap.size, 0, none⟩) 0 0] 26)).cell? ⟨w.heap.size, 1, none⟩ = some (.slice (some ⟨gl, 0, none⟩) ls.length cl) := (((HBX.out.kept HG1.out (fun e => by have := (HR0.out.lt _ e.symm).1; omega)).alloc _).alloc _).cell rfl))
  have HGD := Lib.hid (show w.grownBy ((C1.alloc (Obj.cells #[] 9)).alloc (Obj.cells #[Value.slice an ss.length cn, Value.slice (some ⟨C1.heap.size, 0, none⟩) 0 0] 26)) none from grown_alloc (grown_alloc (grown_own HG.out HG1.out (fun q hq => by have := (HR0.out.lt q hq).1; omega)) _) _)
  have HXD := Lib.hid (show Blk ((C1.alloc (Obj.cells #[] 9)).alloc (Obj.cells #[Value.slice an ss.length cn, Value.slice (some ⟨C1.heap.size, 0, none⟩) 0 0] 26)) w.heap.size 26 [Value.slice (some ⟨gs, 0, none⟩) ss.length cs, .slice (some ⟨gl, 0, none⟩) ls.length cl] from ((HBX.out.kept HG1.out (fun e => by have := (HR0.out.lt _ e.symm).1; omega)).alloc _).alloc _)
  have HRD := Lib.hid (show Blk ((C1.alloc (Obj.cells #[] 9)).alloc (Obj.cells #[Value.slice an ss.length cn, Value.slice (some ⟨C1.heap.size, 0, none⟩) 0 0] 26)) (w.heap.size + 1) 26 [Value.slice none 0 0, .slice none 0 0] from ((HBR.out.kept HG1.out (fun e => by have := (HR0.out.lt _ e.symm).1; omega)).alloc _).alloc _)
  have HVD := Lib.hid (show Blk ((C1.alloc (Obj.cells #[] 9)).alloc (Obj.cells #[Value.slice an ss.length cn, Value.slice (some ⟨C1.heap.size, 0, none⟩) 0 0] 26)) (C1.heap.size + 1) 26 [Value.slice an ss.length cn, .slice (some ⟨C1.heap.size, 0, none⟩) 0 0] from by
    have := Blk.new (C1.alloc (Obj.cells #[] 9)) 26 [Value.slice an ss.length cn, .slice (some ⟨C1.heap.size, 0, none⟩) 0 0]
    simpa using this)
  have HWD := Lib.hid (show Row ((C1.alloc (Obj.cells #[] 9)).alloc (Obj.cells #[Value.slice an ss.length cn, Value.slice (some ⟨C1.heap.size, 0, none⟩) 0 0] 26)) (w.heap.size + 2) (.slice an ss.length cn) (strs ss) from ((show Row C1 (w.heap.size + 2) (.slice an ss.length cn) (strs ss) from HR1.out).alloc _).alloc _)
  have HOW := Lib.hid (show ∀ q, (Value.slice an ss.length cn).ownBlock = some q → q < C1.heap.size from fun q hq => ((show Row C1 (w.heap.size + 2) (.slice an ss.length cn) (strs ss) from HR1.out).lt q hq).2)
  have hgC : w.heap.size + 2 ≤ C1.heap.size := by have h1 := (HBR.out.kept HG1.out (fun e => by have := (HR0.out.lt _ e.symm).1; omega)).lt; omega
  clear HR1 HO1 HR0 HBX HBR HG dD
  generalize ((C1.alloc (Obj.cells #[] 9)).alloc (Obj.cells #[Value.slice an ss.length cn, Value.slice (some ⟨C1.heap.size, 0, none⟩) 0 0] 26)) = DD at HGD HXD HRD HVD HWD ⊢
  generalize C1.heap.size = g at HVD HOW hgC ⊢
  refine wp_still_tail 6 (by kernel_rfl) (by kernel_rfl) (fun wx => w.grownBy wx none ∧ Blk wx w.heap.size 26 [Value.slice (some ⟨gs, 0, none⟩) ss.length cs, .slice (some ⟨gl, 0, none⟩) ls.length cl] ∧ Blk wx (w.heap.size + 1) 26 [Value.slice none 0 0, .slice none 0 0] ∧ Blk wx (g + 1) 26 [Value.slice an ss.length cn, .slice (some ⟨g, 0, none⟩) 0 0] ∧ Row wx (w.heap.size + 2) (.slice an ss.length cn) (strs ss)) ⟨grown_drew HGD.out, HXD.out.drew, HRD.out.drew, HVD.out.drew, HWD.out.drew⟩ ?_
  rintro wx ⟨hgx, hbx, hbr, hbv, hrw⟩
  have HGX := Lib.hid hgx
  have HX := Lib.hid hbx
  have HR := Lib.hid hbr
  have HV := Lib.hid hbv
  have HW := Lib.hid hrw
  have x0 : wx.cell? ⟨g + 1, 0, none⟩ = some (.slice an ss.length cn) := hbv.cell rfl
  have l1 : wx.cell? ⟨w.heap.size, 1, none⟩ = some (.slice (some ⟨gl, 0, none⟩) ls.length cl) := hbx.cell rfl
  have hszx : w.heap.size + 2 ≤ wx.heap.size := by have h1 := hbr.lt; omega
  have HTX := Lib.hid (HLT.out.kept hgx (by simp))
  clear hgx hbx hbr hbv hrw HGD HXD HRD HVD HWD
  simp only [List.take_succ_cons, List.take_zero, List.drop_succ_cons, List.drop_zero]
  repeat still_step
  refine wpStill_nil ?_
  clear x0 l1
  go_wp2_with (first | (at_builtin; refine wpList_append_row2 rfl _ _ 22 rfl 9 i9 (.string ⟨#[]⟩) 16 Try.underlying22 hi9 hz0 hz1 hz2 rfl (w.heap.size + 2) _ (strs ss) rfl HW.out ⟨gl, 0, none⟩ m cl (strs T) rfl (by rw [strs_len]; exact hTl) HTX.out (strs_one _) (by rw [strs_len]; unfold maxLen; omega) (by rw [strs_len]; omega) hszx ?_; intro v2 w4 HR4 HG4 HO4; have hr4 := HR4.out; rw [show strs ss ++ strs T = strs (ss ++ T) from by simp [strs]] at hr4; obtain ⟨an3, cn3, rfl, -⟩ := hr4.lies; have HW4 := Lib.hid hr4; have HV4 := Lib.hid (HV.out.kept HG4.out (fun e => by have := HOW.out _ e.symm; omega)); have HRR := Lib.hid (HR.out.kept HG4.out (fun e => by have := (HW.out.lt _ e.symm).1; omega)); have HX4 := Lib.hid (HX.out.kept HG4.out (fun e => by have := (HW.out.lt _ e.symm).1; omega)); have HGW4 := Lib.hid (show w.grownBy w4 none from grown_own HGX.out HG4.out (fun q hq => by have := (HW.out.lt q hq).1; omega)); have z0 : w4.cell? ⟨g + 1, 0, none⟩ = some (.slice an ss.length cn) := HV4.out.cell rfl; have z1 := HV4.out.frozen 0; have z2 : w4.cell? ⟨g + 1, 1, none⟩ = some (.slice (some ⟨g, 0, none⟩) 0 0) := HV4.out.cell rfl; have z3 : w4.cell? ⟨w.heap.size, 1, none⟩ = some (.slice (some ⟨gl, 0, none⟩) ls.length cl) := HX4.out.cell rfl; have y0 : w4.cell? ⟨w.heap.size + 1, 0, none⟩ = some (.slice none 0 0) := HRR.out.cell rfl; have y1 : w4.cell? ⟨w.heap.size + 1, 1, none⟩ = some (.slice none 0 0) := HRR.out.cell rfl; have y2 := HRR.out.frozen 0; have y3 := HRR.out.frozen 1; clear hr4; have hrow4 := HW4.out; have ho := HO4.out; rw [HLE.out] at hrow4 ho; have hVl := HV.out.lt; have HSA := Lib.hid (grown_set (grown_refl w4 (some (g + 1))) 0 (.slice an3 (ss.length + m) cn3)); have HRW5 := Lib.hid (hrow4.kept HSA.out (fun q hq e => by have := Option.some.inj e; rcases ho q hq with h | h <;> (first | omega | (have := HOW.out q h; omega)))); have HOV := Lib.hid (show ∀ q, (Value.slice an3 (ss.length + m) cn3).ownBlock = some q → q ≠ g + 1 from fun q hq => by rcases ho q hq with h | h <;> (first | omega | (have := HOW.out q h; omega))); have HV5 := Lib.hid (HV4.out.set 0 (.slice an3 (ss.length + m) cn3)); have HRR5 := Lib.hid (HRR.out.kept HSA.out (by intro e; have := Option.some.inj e; omega)); have HX5 := Lib.hid (HX4.out.kept HSA.out (by intro e; have := Option.some.inj e; omega)); have HGW5 := Lib.hid (grown_into (row := none) HGW4.out HSA.out (by omega)); have hx5 : (w4.setCell ⟨g + 1, 0, none⟩ (.slice an3 (ss.length + m) cn3)).cell? ⟨gl, m, none⟩ = some (.string x) := HGW5.out.cell HXA.out (by simp); have hx6 : w4.cell? ⟨gl, m, none⟩ = some (.string x) := HGW4.out.cell HXA.out (by simp); have hz5 : (w4.setCell ⟨g + 1, 0, none⟩ (.slice an3 (ss.length + m) cn3)).cell? ⟨w.heap.size, 1, none⟩ = some (.slice (some ⟨gl, 0, none⟩) ls.length cl) := HX5.out.cell rfl; have HNEW := Lib.hid (show ∀ j v, (strs [x])[j]? = some v → ((w4.setCell ⟨g + 1, 0, none⟩ (.slice an3 (ss.length + m) cn3)).alloc (Obj.cells #[Value.string (x)] 9)).cell? ((⟨w4.heap.size, 0, none⟩ : Addr).add j) = some v from (by have hh := news_new (w4.setCell ⟨g + 1, 0, none⟩ (.slice an3 (ss.length + m) cn3)) 9 (strs [x]); rw [show (w4.setCell ⟨g + 1, 0, none⟩ (.slice an3 (ss.length + m) cn3)).heap.size = w4.heap.size from by simp [World.setCell]] at hh; exact hh)); clear hrow4 ho) | (at_builtin; go_must (refine wpList_append_row2 rfl _ _ 22 rfl 9 i9 (.string ⟨#[]⟩) 16 Try.underlying22 hi9 hz0 hz1 hz2 rfl (w.heap.size + 2) _ (strs (ss ++ T)) rfl (HRW5.out.alloc _) ⟨_, 0, none⟩ 1 1 (strs [x]) rfl rfl HNEW.out (strs_one _) (by rw [strs_len, HLE.out]; unfold maxLen; omega) (by rw [strs_len, HLE.out]; omega) (by have h1 := HRR.out.lt; simp; omega) ?_); intro v5 w6 HR6 HG6 HO6; have hr6 := HR6.out; rw [show strs (ss ++ T) ++ strs [x] = strs (ss ++ T ++ [x]) from by simp [strs]] at hr6; obtain ⟨an6, cn6, rfl, -⟩ := hr6.lies; have HW6 := Lib.hid hr6; have HV6 := Lib.hid ((HV5.out.alloc _).kept HG6.out (fun e => HOV.out _ e.symm rfl)); have HRR6 := Lib.hid ((HRR5.out.alloc _).kept HG6.out (fun e => by have := (HRW5.out.lt _ e.symm).1; omega)); have HGW6 := Lib.hid (show w.grownBy w6 none from grown_own (grown_alloc HGW5.out _) HG6.out (fun q hq => by have := (HRW5.out.lt q hq).1; omega)); have t0 : w6.cell? ⟨g + 1, 0, none⟩ = some (.slice an3 (ss.length + m) cn3) := HV6.out.cell rfl; have t1 := HV6.out.frozen 0; have t2 : w6.cell? ⟨g + 1, 1, none⟩ = some (.slice (some ⟨g, 0, none⟩) 0 0) := HV6.out.cell rfl; have u0 : w6.cell? ⟨w.heap.size + 1, 0, none⟩ = some (.slice none 0 0) := HRR6.out.cell rfl; have u1 : w6.cell? ⟨w.heap.size + 1, 1, none⟩ = some (.slice none 0 0) := HRR6.out.cell rfl; have u2 := HRR6.out.frozen 0; have u3 := HRR6.out.frozen 1; clear hr6))
  all_goals
    have hrow6 := HW6.out
    have ho := HO6.out
    rw [HLF.out] at hrow6 ho
    have hVl := HV.out.lt
    have hsA := grown_set (grown_refl w6 (some (g + 1))) 0 (.slice an6 (ss.length + (m + 1)) cn6)
    have hrA := HRR6.out.kept hsA (by intro e; have := Option.some.inj e; omega)
    have hrowA := hrow6.kept hsA (fun q hq e => by
      have := Option.some.inj e
      rcases ho q hq with h | h
      · exact HOV.out q h this
      · have h1 := HV5.out.lt
        simp at h
        simp at h1
        omega)
    have hgA := grown_into HGW6.out hsA (by omega)
    have hsB := grown_set (grown_set (grown_refl (w6.setCell ⟨g + 1, 0, none⟩ (.slice an6 (ss.length + (m + 1)) cn6)) (some (w.heap.size + 1))) 0 (.slice an6 (ss.length + (m + 1)) cn6)) 1 (.slice (some ⟨g, 0, none⟩) 0 0)
    have hrB := (hrA.set 0 (.slice an6 (ss.length + (m + 1)) cn6)).set 1 (.slice (some ⟨g, 0, none⟩) 0 0)
    have hrowB := hrowA.kept hsB (fun q hq e => by have h1 := (hrowA.lt q hq).1; have := Option.some.inj e; omega)
    have hgB := grown_into hgA hsB (by omega)
    exact ⟨rfl, _, results_blk1 Try.results16 _ _ (w.heap.size + 1) 26 _ _ hrB Try.underlying26 rfl info26 rfl, _, _, _, rfl, hrowB.base (by omega), hgB⟩

set_option maxRecDepth 100000 in
set_option maxHeartbeats 4000000 in
theorem crash_B1c (w : World) (gs cs gl cl : Nat) (ss ls : List ByteArray) (hs : At w ⟨gs, 0, none⟩ ss) (hl : At w ⟨gl, 0, none⟩ ls) (n1 : ss.length ≤ 1048576) (n2 : ls.length ≤ 1048576) (_hcl : ls.length ≤ cl) (whole torn : Int) (T : List ByteArray) (hw : whole < 0) (hTl : T.length = 0) (hLT : At w ⟨gl, 0, none⟩ T) (hq : (0 : Int) < ls.length) (x : ByteArray) (hx : w.cell? ⟨gl, 0, none⟩ = some (.string x)) (n : Nat) (ht : torn = (n : Int)) (hn0 : 0 < n) (hn : n < x.size) :
    Calls Try.prog 16 #[.agg #[.slice (some ⟨gs, 0, none⟩) ss.length cs, .slice (some ⟨gl, 0, none⟩) ls.length cl], .int .i64 whole, .int .i64 torn] w fun e w' => ∃ v a2 c2, e = .returned (.agg #[v, .slice a2 0 c2]) ∧ Row w' w.heap.size v (strs (ss ++ T ++ [x.extract 0 n])) ∧ w.grownBy w' none := by
  have HG := Lib.hid (show w.grownBy (((w.alloc (Obj.cells #[Value.slice (some ⟨gs, 0, none⟩) ss.length cs, .slice (some ⟨gl, 0, none⟩) ls.length cl] 26)).alloc (Obj.cells #[Value.slice none 0 0, .slice none 0 0] 26)).alloc (Obj.cells #[] 9)) none from grown_alloc (grown_alloc (grown_alloc (grown_refl _ _) _) _) _)
  have HBX := Lib.hid (show Blk (((w.alloc (Obj.cells #[Value.slice (some ⟨gs, 0, none⟩) ss.length cs, .slice (some ⟨gl, 0, none⟩) ls.length cl] 26)).alloc (Obj.cells #[Value.slice none 0 0, .slice none 0 0] 26)).alloc (Obj.cells #[] 9)) w.heap.size 26 [Value.slice (some ⟨gs, 0, none⟩) ss.length cs, .slice (some ⟨gl, 0, none⟩) ls.length cl] from ((Blk.new w 26 _).alloc _).alloc _)
  have HBR := Lib.hid (show Blk (((w.alloc (Obj.cells #[Value.slice (some ⟨gs, 0, none⟩) ss.length cs, .slice (some ⟨gl, 0, none⟩) ls.length cl] 26)).alloc (Obj.cells #[Value.slice none 0 0, .slice none 0 0] 26)).alloc (Obj.cells #[] 9)) (w.heap.size + 1) 26 [Value.slice none 0 0, .slice none 0 0] from by
    have := (Blk.new (w.alloc (Obj.cells #[Value.slice (some ⟨gs, 0, none⟩) ss.length cs, .slice (some ⟨gl, 0, none⟩) ls.length cl] 26)) 26 [Value.slice none 0 0, .slice none 0 0]).alloc (Obj.cells #[] 9)
    simpa using this)
  have HR0 := Lib.hid (show Row (((w.alloc (Obj.cells #[Value.slice (some ⟨gs, 0, none⟩) ss.length cs, .slice (some ⟨gl, 0, none⟩) ls.length cl] 26)).alloc (Obj.cells #[Value.slice none 0 0, .slice none 0 0] 26)).alloc (Obj.cells #[] 9)) (w.heap.size + 2) (.slice (some ⟨w.heap.size + 1 + 1, 0, none⟩) 0 0) (strs []) from by
    have := Row.lit ((w.alloc (Obj.cells #[Value.slice (some ⟨gs, 0, none⟩) ss.length cs, .slice (some ⟨gl, 0, none⟩) ls.length cl] 26)).alloc (Obj.cells #[Value.slice none 0 0, .slice none 0 0] 26)) 9 []
    simp only [World.size_alloc] at this
    exact this.base (by omega))
  have HS := Lib.hid hs
  have HL := Lib.hid hl
  obtain ⟨i9, hi9, hz0, hz1, hz2⟩ := info_parts info9g
  clear hs hl
  have q2 : ¬ (ls.length : Int) < 0 := by omega
  have hmc : (0 : Int) ≤ cl := by omega
  subst ht
  have k1 : (0 : Int) < (n : Int) := by omega
  have k2 : (n : Int) < x.size := by omega
  have k3 : (n : Int) ≤ x.size := by omega
  have HXA := Lib.hid hx
  clear hx
  have HLT := Lib.hid hLT
  have HLE := Lib.hid (show (ss ++ T).length = ss.length from by simp [hTl])
  clear hLT
  have HLF := Lib.hid (show (ss ++ T ++ [x.extract 0 n]).length = ss.length + 1 from by simp [hTl])
  go_enter Try.func16, Try.ntmps16
  go_wp2_with (first | (at_builtin; go_must (refine wpList_append_row2 rfl _ _ 22 rfl 9 i9 (.string ⟨#[]⟩) 16 Try.underlying22 hi9 hz0 hz1 hz2 rfl (w.heap.size + 2) _ (strs []) rfl HR0.out ⟨gs, 0, none⟩ ss.length cs (strs ss) rfl (strs_len _) (HS.out.kept HG.out (by simp)) (strs_one _) (by rw [strs_len]; simp only [List.length_nil]; unfold maxLen; omega) (by rw [strs_len]; simp only [List.length_nil]; omega) (by simp) ?_); intro v1 C1 HR1 HG1 HO1; obtain ⟨an, cn, rfl, -⟩ := (show Row C1 _ v1 (strs ss) from HR1.out).lies; have dD : ((C1.alloc (Obj.cells #[] 9)).alloc (Obj.cells #[Value.slice an ss.length cn, Value.slice (some ⟨C1.heap.size, 0, none⟩) 0 0] 26)).cell? ⟨w.heap.size, 1, none⟩ = some (.slice (some ⟨gl, 0, none⟩) ls.length cl) := (((HBX.out.kept HG1.out (fun e => by have := (HR0.out.lt _ e.symm).1; omega)).alloc _).alloc _).cell rfl))
  have HGD := Lib.hid (show w.grownBy ((C1.alloc (Obj.cells #[] 9)).alloc (Obj.cells #[Value.slice an ss.length cn, Value.slice (some ⟨C1.heap.size, 0, none⟩) 0 0] 26)) none from grown_alloc (grown_alloc (grown_own HG.out HG1.out (fun q hq => by have := (HR0.out.lt q hq).1; omega)) _) _)
  have HXD := Lib.hid (show Blk ((C1.alloc (Obj.cells #[] 9)).alloc (Obj.cells #[Value.slice an ss.length cn, Value.slice (some ⟨C1.heap.size, 0, none⟩) 0 0] 26)) w.heap.size 26 [Value.slice (some ⟨gs, 0, none⟩) ss.length cs, .slice (some ⟨gl, 0, none⟩) ls.length cl] from ((HBX.out.kept HG1.out (fun e => by have := (HR0.out.lt _ e.symm).1; omega)).alloc _).alloc _)
  have HRD := Lib.hid (show Blk ((C1.alloc (Obj.cells #[] 9)).alloc (Obj.cells #[Value.slice an ss.length cn, Value.slice (some ⟨C1.heap.size, 0, none⟩) 0 0] 26)) (w.heap.size + 1) 26 [Value.slice none 0 0, .slice none 0 0] from ((HBR.out.kept HG1.out (fun e => by have := (HR0.out.lt _ e.symm).1; omega)).alloc _).alloc _)
  have HVD := Lib.hid (show Blk ((C1.alloc (Obj.cells #[] 9)).alloc (Obj.cells #[Value.slice an ss.length cn, Value.slice (some ⟨C1.heap.size, 0, none⟩) 0 0] 26)) (C1.heap.size + 1) 26 [Value.slice an ss.length cn, .slice (some ⟨C1.heap.size, 0, none⟩) 0 0] from by
    have := Blk.new (C1.alloc (Obj.cells #[] 9)) 26 [Value.slice an ss.length cn, .slice (some ⟨C1.heap.size, 0, none⟩) 0 0]
    simpa using this)
  have HWD := Lib.hid (show Row ((C1.alloc (Obj.cells #[] 9)).alloc (Obj.cells #[Value.slice an ss.length cn, Value.slice (some ⟨C1.heap.size, 0, none⟩) 0 0] 26)) (w.heap.size + 2) (.slice an ss.length cn) (strs ss) from ((show Row C1 (w.heap.size + 2) (.slice an ss.length cn) (strs ss) from HR1.out).alloc _).alloc _)
  have HOW := Lib.hid (show ∀ q, (Value.slice an ss.length cn).ownBlock = some q → q < C1.heap.size from fun q hq => ((show Row C1 (w.heap.size + 2) (.slice an ss.length cn) (strs ss) from HR1.out).lt q hq).2)
  have hgC : w.heap.size + 2 ≤ C1.heap.size := by have h1 := (HBR.out.kept HG1.out (fun e => by have := (HR0.out.lt _ e.symm).1; omega)).lt; omega
  clear HR1 HO1 HR0 HBX HBR HG dD
  generalize ((C1.alloc (Obj.cells #[] 9)).alloc (Obj.cells #[Value.slice an ss.length cn, Value.slice (some ⟨C1.heap.size, 0, none⟩) 0 0] 26)) = DD at HGD HXD HRD HVD HWD ⊢
  generalize C1.heap.size = g at HVD HOW hgC ⊢
  refine wp_still_tail 6 (by kernel_rfl) (by kernel_rfl) (fun wx => w.grownBy wx none ∧ Blk wx w.heap.size 26 [Value.slice (some ⟨gs, 0, none⟩) ss.length cs, .slice (some ⟨gl, 0, none⟩) ls.length cl] ∧ Blk wx (w.heap.size + 1) 26 [Value.slice none 0 0, .slice none 0 0] ∧ Blk wx (g + 1) 26 [Value.slice an ss.length cn, .slice (some ⟨g, 0, none⟩) 0 0] ∧ Row wx (w.heap.size + 2) (.slice an ss.length cn) (strs ss)) ⟨grown_drew HGD.out, HXD.out.drew, HRD.out.drew, HVD.out.drew, HWD.out.drew⟩ ?_
  rintro wx ⟨hgx, hbx, hbr, hbv, hrw⟩
  have HGX := Lib.hid hgx
  have HX := Lib.hid hbx
  have HR := Lib.hid hbr
  have HV := Lib.hid hbv
  have HW := Lib.hid hrw
  have x0 : wx.cell? ⟨g + 1, 0, none⟩ = some (.slice an ss.length cn) := hbv.cell rfl
  have l1 : wx.cell? ⟨w.heap.size, 1, none⟩ = some (.slice (some ⟨gl, 0, none⟩) ls.length cl) := hbx.cell rfl
  have hszx : w.heap.size + 2 ≤ wx.heap.size := by have h1 := hbr.lt; omega
  have HTX := Lib.hid (HLT.out.kept hgx (by simp))
  clear hgx hbx hbr hbv hrw HGD HXD HRD HVD HWD
  simp only [List.take_succ_cons, List.take_zero, List.drop_succ_cons, List.drop_zero]
  repeat still_step
  refine wpStill_nil ?_
  clear x0 l1
  go_wp2_with (first | (at_builtin; refine wpList_append_row2 rfl _ _ 22 rfl 9 i9 (.string ⟨#[]⟩) 16 Try.underlying22 hi9 hz0 hz1 hz2 rfl (w.heap.size + 2) _ (strs ss) rfl HW.out ⟨gl, 0, none⟩ 0 cl (strs T) rfl (by rw [strs_len]; exact hTl) HTX.out (strs_one _) (by rw [strs_len]; unfold maxLen; omega) (by rw [strs_len]; omega) hszx ?_; intro v2 w4 HR4 HG4 HO4; have hr4 := HR4.out; rw [show strs ss ++ strs T = strs (ss ++ T) from by simp [strs]] at hr4; obtain ⟨an3, cn3, rfl, -⟩ := hr4.lies; have HW4 := Lib.hid hr4; have HV4 := Lib.hid (HV.out.kept HG4.out (fun e => by have := HOW.out _ e.symm; omega)); have HRR := Lib.hid (HR.out.kept HG4.out (fun e => by have := (HW.out.lt _ e.symm).1; omega)); have HX4 := Lib.hid (HX.out.kept HG4.out (fun e => by have := (HW.out.lt _ e.symm).1; omega)); have HGW4 := Lib.hid (show w.grownBy w4 none from grown_own HGX.out HG4.out (fun q hq => by have := (HW.out.lt q hq).1; omega)); have z0 : w4.cell? ⟨g + 1, 0, none⟩ = some (.slice an ss.length cn) := HV4.out.cell rfl; have z1 := HV4.out.frozen 0; have z2 : w4.cell? ⟨g + 1, 1, none⟩ = some (.slice (some ⟨g, 0, none⟩) 0 0) := HV4.out.cell rfl; have z3 : w4.cell? ⟨w.heap.size, 1, none⟩ = some (.slice (some ⟨gl, 0, none⟩) ls.length cl) := HX4.out.cell rfl; have y0 : w4.cell? ⟨w.heap.size + 1, 0, none⟩ = some (.slice none 0 0) := HRR.out.cell rfl; have y1 : w4.cell? ⟨w.heap.size + 1, 1, none⟩ = some (.slice none 0 0) := HRR.out.cell rfl; have y2 := HRR.out.frozen 0; have y3 := HRR.out.frozen 1; clear hr4; have hrow4 := HW4.out; have ho := HO4.out; rw [HLE.out] at hrow4 ho; have hVl := HV.out.lt; have HSA := Lib.hid (grown_set (grown_refl w4 (some (g + 1))) 0 (.slice an3 (ss.length) cn3)); have HRW5 := Lib.hid (hrow4.kept HSA.out (fun q hq e => by have := Option.some.inj e; rcases ho q hq with h | h <;> (first | omega | (have := HOW.out q h; omega)))); have HOV := Lib.hid (show ∀ q, (Value.slice an3 (ss.length) cn3).ownBlock = some q → q ≠ g + 1 from fun q hq => by rcases ho q hq with h | h <;> (first | omega | (have := HOW.out q h; omega))); have HV5 := Lib.hid (HV4.out.set 0 (.slice an3 (ss.length) cn3)); have HRR5 := Lib.hid (HRR.out.kept HSA.out (by intro e; have := Option.some.inj e; omega)); have HX5 := Lib.hid (HX4.out.kept HSA.out (by intro e; have := Option.some.inj e; omega)); have HGW5 := Lib.hid (grown_into (row := none) HGW4.out HSA.out (by omega)); have hx5 : (w4.setCell ⟨g + 1, 0, none⟩ (.slice an3 (ss.length) cn3)).cell? ⟨gl, 0, none⟩ = some (.string x) := HGW5.out.cell HXA.out (by simp); have hx6 : w4.cell? ⟨gl, 0, none⟩ = some (.string x) := HGW4.out.cell HXA.out (by simp); have hz5 : (w4.setCell ⟨g + 1, 0, none⟩ (.slice an3 (ss.length) cn3)).cell? ⟨w.heap.size, 1, none⟩ = some (.slice (some ⟨gl, 0, none⟩) ls.length cl) := HX5.out.cell rfl; have HNEW := Lib.hid (show ∀ j v, (strs [x.extract 0 n])[j]? = some v → ((w4.setCell ⟨g + 1, 0, none⟩ (.slice an3 (ss.length) cn3)).alloc (Obj.cells #[Value.string (x.extract 0 n)] 9)).cell? ((⟨w4.heap.size, 0, none⟩ : Addr).add j) = some v from (by have hh := news_new (w4.setCell ⟨g + 1, 0, none⟩ (.slice an3 (ss.length) cn3)) 9 (strs [x.extract 0 n]); rw [show (w4.setCell ⟨g + 1, 0, none⟩ (.slice an3 (ss.length) cn3)).heap.size = w4.heap.size from by simp [World.setCell]] at hh; exact hh)); clear hrow4 ho) | (at_builtin; go_must (refine wpList_append_row2 rfl _ _ 22 rfl 9 i9 (.string ⟨#[]⟩) 16 Try.underlying22 hi9 hz0 hz1 hz2 rfl (w.heap.size + 2) _ (strs (ss ++ T)) rfl (HRW5.out.alloc _) ⟨_, 0, none⟩ 1 1 (strs [x.extract 0 n]) rfl rfl HNEW.out (strs_one _) (by rw [strs_len, HLE.out]; unfold maxLen; omega) (by rw [strs_len, HLE.out]; omega) (by have h1 := HRR.out.lt; simp; omega) ?_); intro v5 w6 HR6 HG6 HO6; have hr6 := HR6.out; rw [show strs (ss ++ T) ++ strs [x.extract 0 n] = strs (ss ++ T ++ [x.extract 0 n]) from by simp [strs]] at hr6; obtain ⟨an6, cn6, rfl, -⟩ := hr6.lies; have HW6 := Lib.hid hr6; have HV6 := Lib.hid ((HV5.out.alloc _).kept HG6.out (fun e => HOV.out _ e.symm rfl)); have HRR6 := Lib.hid ((HRR5.out.alloc _).kept HG6.out (fun e => by have := (HRW5.out.lt _ e.symm).1; omega)); have HGW6 := Lib.hid (show w.grownBy w6 none from grown_own (grown_alloc HGW5.out _) HG6.out (fun q hq => by have := (HRW5.out.lt q hq).1; omega)); have t0 : w6.cell? ⟨g + 1, 0, none⟩ = some (.slice an3 (ss.length) cn3) := HV6.out.cell rfl; have t1 := HV6.out.frozen 0; have t2 : w6.cell? ⟨g + 1, 1, none⟩ = some (.slice (some ⟨g, 0, none⟩) 0 0) := HV6.out.cell rfl; have u0 : w6.cell? ⟨w.heap.size + 1, 0, none⟩ = some (.slice none 0 0) := HRR6.out.cell rfl; have u1 : w6.cell? ⟨w.heap.size + 1, 1, none⟩ = some (.slice none 0 0) := HRR6.out.cell rfl; have u2 := HRR6.out.frozen 0; have u3 := HRR6.out.frozen 1; clear hr6))
  all_goals
    have hrow6 := HW6.out
    have ho := HO6.out
    rw [HLF.out] at hrow6 ho
    have hVl := HV.out.lt
    have hsA := grown_set (grown_refl w6 (some (g + 1))) 0 (.slice an6 (ss.length + 1) cn6)
    have hrA := HRR6.out.kept hsA (by intro e; have := Option.some.inj e; omega)
    have hrowA := hrow6.kept hsA (fun q hq e => by
      have := Option.some.inj e
      rcases ho q hq with h | h
      · exact HOV.out q h this
      · have h1 := HV5.out.lt
        simp at h
        simp at h1
        omega)
    have hgA := grown_into HGW6.out hsA (by omega)
    have hsB := grown_set (grown_set (grown_refl (w6.setCell ⟨g + 1, 0, none⟩ (.slice an6 (ss.length + 1) cn6)) (some (w.heap.size + 1))) 0 (.slice an6 (ss.length + 1) cn6)) 1 (.slice (some ⟨g, 0, none⟩) 0 0)
    have hrB := (hrA.set 0 (.slice an6 (ss.length + 1) cn6)).set 1 (.slice (some ⟨g, 0, none⟩) 0 0)
    have hrowB := hrowA.kept hsB (fun q hq e => by have h1 := (hrowA.lt q hq).1; have := Option.some.inj e; omega)
    have hgB := grown_into hgA hsB (by omega)
    exact ⟨rfl, _, results_blk1 Try.results16 _ _ (w.heap.size + 1) 26 _ _ hrB Try.underlying26 rfl info26 rfl, _, _, _, rfl, hrowB.base (by omega), hgB⟩

set_option maxRecDepth 100000 in
set_option maxHeartbeats 4000000 in
theorem crash_B1f (w : World) (gs cs gl cl : Nat) (ss ls : List ByteArray) (hs : At w ⟨gs, 0, none⟩ ss) (hl : At w ⟨gl, 0, none⟩ ls) (n1 : ss.length ≤ 1048576) (n2 : ls.length ≤ 1048576) (_hcl : ls.length ≤ cl) (whole torn : Int) (T : List ByteArray) (hw : whole < 0) (hTl : T.length = 0) (hLT : At w ⟨gl, 0, none⟩ T) (hq : (0 : Int) < ls.length) (x : ByteArray) (hx : w.cell? ⟨gl, 0, none⟩ = some (.string x)) (hq2 : 0 < torn) (hn : (x.size : Int) ≤ torn) :
    Calls Try.prog 16 #[.agg #[.slice (some ⟨gs, 0, none⟩) ss.length cs, .slice (some ⟨gl, 0, none⟩) ls.length cl], .int .i64 whole, .int .i64 torn] w fun e w' => ∃ v a2 c2, e = .returned (.agg #[v, .slice a2 0 c2]) ∧ Row w' w.heap.size v (strs (ss ++ T ++ [x])) ∧ w.grownBy w' none := by
  have HG := Lib.hid (show w.grownBy (((w.alloc (Obj.cells #[Value.slice (some ⟨gs, 0, none⟩) ss.length cs, .slice (some ⟨gl, 0, none⟩) ls.length cl] 26)).alloc (Obj.cells #[Value.slice none 0 0, .slice none 0 0] 26)).alloc (Obj.cells #[] 9)) none from grown_alloc (grown_alloc (grown_alloc (grown_refl _ _) _) _) _)
  have HBX := Lib.hid (show Blk (((w.alloc (Obj.cells #[Value.slice (some ⟨gs, 0, none⟩) ss.length cs, .slice (some ⟨gl, 0, none⟩) ls.length cl] 26)).alloc (Obj.cells #[Value.slice none 0 0, .slice none 0 0] 26)).alloc (Obj.cells #[] 9)) w.heap.size 26 [Value.slice (some ⟨gs, 0, none⟩) ss.length cs, .slice (some ⟨gl, 0, none⟩) ls.length cl] from ((Blk.new w 26 _).alloc _).alloc _)
  have HBR := Lib.hid (show Blk (((w.alloc (Obj.cells #[Value.slice (some ⟨gs, 0, none⟩) ss.length cs, .slice (some ⟨gl, 0, none⟩) ls.length cl] 26)).alloc (Obj.cells #[Value.slice none 0 0, .slice none 0 0] 26)).alloc (Obj.cells #[] 9)) (w.heap.size + 1) 26 [Value.slice none 0 0, .slice none 0 0] from by
    have := (Blk.new (w.alloc (Obj.cells #[Value.slice (some ⟨gs, 0, none⟩) ss.length cs, .slice (some ⟨gl, 0, none⟩) ls.length cl] 26)) 26 [Value.slice none 0 0, .slice none 0 0]).alloc (Obj.cells #[] 9)
    simpa using this)
  have HR0 := Lib.hid (show Row (((w.alloc (Obj.cells #[Value.slice (some ⟨gs, 0, none⟩) ss.length cs, .slice (some ⟨gl, 0, none⟩) ls.length cl] 26)).alloc (Obj.cells #[Value.slice none 0 0, .slice none 0 0] 26)).alloc (Obj.cells #[] 9)) (w.heap.size + 2) (.slice (some ⟨w.heap.size + 1 + 1, 0, none⟩) 0 0) (strs []) from by
    have := Row.lit ((w.alloc (Obj.cells #[Value.slice (some ⟨gs, 0, none⟩) ss.length cs, .slice (some ⟨gl, 0, none⟩) ls.length cl] 26)).alloc (Obj.cells #[Value.slice none 0 0, .slice none 0 0] 26)) 9 []
    simp only [World.size_alloc] at this
    exact this.base (by omega))
  have HS := Lib.hid hs
  have HL := Lib.hid hl
  obtain ⟨i9, hi9, hz0, hz1, hz2⟩ := info_parts info9g
  clear hs hl
  have q2 : ¬ (ls.length : Int) < 0 := by omega
  have hmc : (0 : Int) ≤ cl := by omega
  have k2 : ¬ torn < (x.size : Int) := by omega
  have HXA := Lib.hid hx
  clear hx
  have HLT := Lib.hid hLT
  have HLE := Lib.hid (show (ss ++ T).length = ss.length from by simp [hTl])
  clear hLT
  have HLF := Lib.hid (show (ss ++ T ++ [x]).length = ss.length + 1 from by simp [hTl])
  go_enter Try.func16, Try.ntmps16
  go_wp2_with (first | (at_builtin; go_must (refine wpList_append_row2 rfl _ _ 22 rfl 9 i9 (.string ⟨#[]⟩) 16 Try.underlying22 hi9 hz0 hz1 hz2 rfl (w.heap.size + 2) _ (strs []) rfl HR0.out ⟨gs, 0, none⟩ ss.length cs (strs ss) rfl (strs_len _) (HS.out.kept HG.out (by simp)) (strs_one _) (by rw [strs_len]; simp only [List.length_nil]; unfold maxLen; omega) (by rw [strs_len]; simp only [List.length_nil]; omega) (by simp) ?_); intro v1 C1 HR1 HG1 HO1; obtain ⟨an, cn, rfl, -⟩ := (show Row C1 _ v1 (strs ss) from HR1.out).lies; have dD : ((C1.alloc (Obj.cells #[] 9)).alloc (Obj.cells #[Value.slice an ss.length cn, Value.slice (some ⟨C1.heap.size, 0, none⟩) 0 0] 26)).cell? ⟨w.heap.size, 1, none⟩ = some (.slice (some ⟨gl, 0, none⟩) ls.length cl) := (((HBX.out.kept HG1.out (fun e => by have := (HR0.out.lt _ e.symm).1; omega)).alloc _).alloc _).cell rfl))
  have HGD := Lib.hid (show w.grownBy ((C1.alloc (Obj.cells #[] 9)).alloc (Obj.cells #[Value.slice an ss.length cn, Value.slice (some ⟨C1.heap.size, 0, none⟩) 0 0] 26)) none from grown_alloc (grown_alloc (grown_own HG.out HG1.out (fun q hq => by have := (HR0.out.lt q hq).1; omega)) _) _)
  have HXD := Lib.hid (show Blk ((C1.alloc (Obj.cells #[] 9)).alloc (Obj.cells #[Value.slice an ss.length cn, Value.slice (some ⟨C1.heap.size, 0, none⟩) 0 0] 26)) w.heap.size 26 [Value.slice (some ⟨gs, 0, none⟩) ss.length cs, .slice (some ⟨gl, 0, none⟩) ls.length cl] from ((HBX.out.kept HG1.out (fun e => by have := (HR0.out.lt _ e.symm).1; omega)).alloc _).alloc _)
  have HRD := Lib.hid (show Blk ((C1.alloc (Obj.cells #[] 9)).alloc (Obj.cells #[Value.slice an ss.length cn, Value.slice (some ⟨C1.heap.size, 0, none⟩) 0 0] 26)) (w.heap.size + 1) 26 [Value.slice none 0 0, .slice none 0 0] from ((HBR.out.kept HG1.out (fun e => by have := (HR0.out.lt _ e.symm).1; omega)).alloc _).alloc _)
  have HVD := Lib.hid (show Blk ((C1.alloc (Obj.cells #[] 9)).alloc (Obj.cells #[Value.slice an ss.length cn, Value.slice (some ⟨C1.heap.size, 0, none⟩) 0 0] 26)) (C1.heap.size + 1) 26 [Value.slice an ss.length cn, .slice (some ⟨C1.heap.size, 0, none⟩) 0 0] from by
    have := Blk.new (C1.alloc (Obj.cells #[] 9)) 26 [Value.slice an ss.length cn, .slice (some ⟨C1.heap.size, 0, none⟩) 0 0]
    simpa using this)
  have HWD := Lib.hid (show Row ((C1.alloc (Obj.cells #[] 9)).alloc (Obj.cells #[Value.slice an ss.length cn, Value.slice (some ⟨C1.heap.size, 0, none⟩) 0 0] 26)) (w.heap.size + 2) (.slice an ss.length cn) (strs ss) from ((show Row C1 (w.heap.size + 2) (.slice an ss.length cn) (strs ss) from HR1.out).alloc _).alloc _)
  have HOW := Lib.hid (show ∀ q, (Value.slice an ss.length cn).ownBlock = some q → q < C1.heap.size from fun q hq => ((show Row C1 (w.heap.size + 2) (.slice an ss.length cn) (strs ss) from HR1.out).lt q hq).2)
  have hgC : w.heap.size + 2 ≤ C1.heap.size := by have h1 := (HBR.out.kept HG1.out (fun e => by have := (HR0.out.lt _ e.symm).1; omega)).lt; omega
  clear HR1 HO1 HR0 HBX HBR HG dD
  generalize ((C1.alloc (Obj.cells #[] 9)).alloc (Obj.cells #[Value.slice an ss.length cn, Value.slice (some ⟨C1.heap.size, 0, none⟩) 0 0] 26)) = DD at HGD HXD HRD HVD HWD ⊢
  generalize C1.heap.size = g at HVD HOW hgC ⊢
  refine wp_still_tail 6 (by kernel_rfl) (by kernel_rfl) (fun wx => w.grownBy wx none ∧ Blk wx w.heap.size 26 [Value.slice (some ⟨gs, 0, none⟩) ss.length cs, .slice (some ⟨gl, 0, none⟩) ls.length cl] ∧ Blk wx (w.heap.size + 1) 26 [Value.slice none 0 0, .slice none 0 0] ∧ Blk wx (g + 1) 26 [Value.slice an ss.length cn, .slice (some ⟨g, 0, none⟩) 0 0] ∧ Row wx (w.heap.size + 2) (.slice an ss.length cn) (strs ss)) ⟨grown_drew HGD.out, HXD.out.drew, HRD.out.drew, HVD.out.drew, HWD.out.drew⟩ ?_
  rintro wx ⟨hgx, hbx, hbr, hbv, hrw⟩
  have HGX := Lib.hid hgx
  have HX := Lib.hid hbx
  have HR := Lib.hid hbr
  have HV := Lib.hid hbv
  have HW := Lib.hid hrw
  have x0 : wx.cell? ⟨g + 1, 0, none⟩ = some (.slice an ss.length cn) := hbv.cell rfl
  have l1 : wx.cell? ⟨w.heap.size, 1, none⟩ = some (.slice (some ⟨gl, 0, none⟩) ls.length cl) := hbx.cell rfl
  have hszx : w.heap.size + 2 ≤ wx.heap.size := by have h1 := hbr.lt; omega
  have HTX := Lib.hid (HLT.out.kept hgx (by simp))
  clear hgx hbx hbr hbv hrw HGD HXD HRD HVD HWD
  simp only [List.take_succ_cons, List.take_zero, List.drop_succ_cons, List.drop_zero]
  repeat still_step
  refine wpStill_nil ?_
  clear x0 l1
  go_wp2_with (first | (at_builtin; refine wpList_append_row2 rfl _ _ 22 rfl 9 i9 (.string ⟨#[]⟩) 16 Try.underlying22 hi9 hz0 hz1 hz2 rfl (w.heap.size + 2) _ (strs ss) rfl HW.out ⟨gl, 0, none⟩ 0 cl (strs T) rfl (by rw [strs_len]; exact hTl) HTX.out (strs_one _) (by rw [strs_len]; unfold maxLen; omega) (by rw [strs_len]; omega) hszx ?_; intro v2 w4 HR4 HG4 HO4; have hr4 := HR4.out; rw [show strs ss ++ strs T = strs (ss ++ T) from by simp [strs]] at hr4; obtain ⟨an3, cn3, rfl, -⟩ := hr4.lies; have HW4 := Lib.hid hr4; have HV4 := Lib.hid (HV.out.kept HG4.out (fun e => by have := HOW.out _ e.symm; omega)); have HRR := Lib.hid (HR.out.kept HG4.out (fun e => by have := (HW.out.lt _ e.symm).1; omega)); have HX4 := Lib.hid (HX.out.kept HG4.out (fun e => by have := (HW.out.lt _ e.symm).1; omega)); have HGW4 := Lib.hid (show w.grownBy w4 none from grown_own HGX.out HG4.out (fun q hq => by have := (HW.out.lt q hq).1; omega)); have z0 : w4.cell? ⟨g + 1, 0, none⟩ = some (.slice an ss.length cn) := HV4.out.cell rfl; have z1 := HV4.out.frozen 0; have z2 : w4.cell? ⟨g + 1, 1, none⟩ = some (.slice (some ⟨g, 0, none⟩) 0 0) := HV4.out.cell rfl; have z3 : w4.cell? ⟨w.heap.size, 1, none⟩ = some (.slice (some ⟨gl, 0, none⟩) ls.length cl) := HX4.out.cell rfl; have y0 : w4.cell? ⟨w.heap.size + 1, 0, none⟩ = some (.slice none 0 0) := HRR.out.cell rfl; have y1 : w4.cell? ⟨w.heap.size + 1, 1, none⟩ = some (.slice none 0 0) := HRR.out.cell rfl; have y2 := HRR.out.frozen 0; have y3 := HRR.out.frozen 1; clear hr4; have hrow4 := HW4.out; have ho := HO4.out; rw [HLE.out] at hrow4 ho; have hVl := HV.out.lt; have HSA := Lib.hid (grown_set (grown_refl w4 (some (g + 1))) 0 (.slice an3 (ss.length) cn3)); have HRW5 := Lib.hid (hrow4.kept HSA.out (fun q hq e => by have := Option.some.inj e; rcases ho q hq with h | h <;> (first | omega | (have := HOW.out q h; omega)))); have HOV := Lib.hid (show ∀ q, (Value.slice an3 (ss.length) cn3).ownBlock = some q → q ≠ g + 1 from fun q hq => by rcases ho q hq with h | h <;> (first | omega | (have := HOW.out q h; omega))); have HV5 := Lib.hid (HV4.out.set 0 (.slice an3 (ss.length) cn3)); have HRR5 := Lib.hid (HRR.out.kept HSA.out (by intro e; have := Option.some.inj e; omega)); have HX5 := Lib.hid (HX4.out.kept HSA.out (by intro e; have := Option.some.inj e; omega)); have HGW5 := Lib.hid (grown_into (row := none) HGW4.out HSA.out (by omega)); have hx5 : (w4.setCell ⟨g + 1, 0, none⟩ (.slice an3 (ss.length) cn3)).cell? ⟨gl, 0, none⟩ = some (.string x) := HGW5.out.cell HXA.out (by simp); have hx6 : w4.cell? ⟨gl, 0, none⟩ = some (.string x) := HGW4.out.cell HXA.out (by simp); have hz5 : (w4.setCell ⟨g + 1, 0, none⟩ (.slice an3 (ss.length) cn3)).cell? ⟨w.heap.size, 1, none⟩ = some (.slice (some ⟨gl, 0, none⟩) ls.length cl) := HX5.out.cell rfl; have HNEW := Lib.hid (show ∀ j v, (strs [x])[j]? = some v → ((w4.setCell ⟨g + 1, 0, none⟩ (.slice an3 (ss.length) cn3)).alloc (Obj.cells #[Value.string (x)] 9)).cell? ((⟨w4.heap.size, 0, none⟩ : Addr).add j) = some v from (by have hh := news_new (w4.setCell ⟨g + 1, 0, none⟩ (.slice an3 (ss.length) cn3)) 9 (strs [x]); rw [show (w4.setCell ⟨g + 1, 0, none⟩ (.slice an3 (ss.length) cn3)).heap.size = w4.heap.size from by simp [World.setCell]] at hh; exact hh)); clear hrow4 ho) | (at_builtin; go_must (refine wpList_append_row2 rfl _ _ 22 rfl 9 i9 (.string ⟨#[]⟩) 16 Try.underlying22 hi9 hz0 hz1 hz2 rfl (w.heap.size + 2) _ (strs (ss ++ T)) rfl (HRW5.out.alloc _) ⟨_, 0, none⟩ 1 1 (strs [x]) rfl rfl HNEW.out (strs_one _) (by rw [strs_len, HLE.out]; unfold maxLen; omega) (by rw [strs_len, HLE.out]; omega) (by have h1 := HRR.out.lt; simp; omega) ?_); intro v5 w6 HR6 HG6 HO6; have hr6 := HR6.out; rw [show strs (ss ++ T) ++ strs [x] = strs (ss ++ T ++ [x]) from by simp [strs]] at hr6; obtain ⟨an6, cn6, rfl, -⟩ := hr6.lies; have HW6 := Lib.hid hr6; have HV6 := Lib.hid ((HV5.out.alloc _).kept HG6.out (fun e => HOV.out _ e.symm rfl)); have HRR6 := Lib.hid ((HRR5.out.alloc _).kept HG6.out (fun e => by have := (HRW5.out.lt _ e.symm).1; omega)); have HGW6 := Lib.hid (show w.grownBy w6 none from grown_own (grown_alloc HGW5.out _) HG6.out (fun q hq => by have := (HRW5.out.lt q hq).1; omega)); have t0 : w6.cell? ⟨g + 1, 0, none⟩ = some (.slice an3 (ss.length) cn3) := HV6.out.cell rfl; have t1 := HV6.out.frozen 0; have t2 : w6.cell? ⟨g + 1, 1, none⟩ = some (.slice (some ⟨g, 0, none⟩) 0 0) := HV6.out.cell rfl; have u0 : w6.cell? ⟨w.heap.size + 1, 0, none⟩ = some (.slice none 0 0) := HRR6.out.cell rfl; have u1 : w6.cell? ⟨w.heap.size + 1, 1, none⟩ = some (.slice none 0 0) := HRR6.out.cell rfl; have u2 := HRR6.out.frozen 0; have u3 := HRR6.out.frozen 1; clear hr6))
  all_goals
    have hrow6 := HW6.out
    have ho := HO6.out
    rw [HLF.out] at hrow6 ho
    have hVl := HV.out.lt
    have hsA := grown_set (grown_refl w6 (some (g + 1))) 0 (.slice an6 (ss.length + 1) cn6)
    have hrA := HRR6.out.kept hsA (by intro e; have := Option.some.inj e; omega)
    have hrowA := hrow6.kept hsA (fun q hq e => by
      have := Option.some.inj e
      rcases ho q hq with h | h
      · exact HOV.out q h this
      · have h1 := HV5.out.lt
        simp at h
        simp at h1
        omega)
    have hgA := grown_into HGW6.out hsA (by omega)
    have hsB := grown_set (grown_set (grown_refl (w6.setCell ⟨g + 1, 0, none⟩ (.slice an6 (ss.length + 1) cn6)) (some (w.heap.size + 1))) 0 (.slice an6 (ss.length + 1) cn6)) 1 (.slice (some ⟨g, 0, none⟩) 0 0)
    have hrB := (hrA.set 0 (.slice an6 (ss.length + 1) cn6)).set 1 (.slice (some ⟨g, 0, none⟩) 0 0)
    have hrowB := hrowA.kept hsB (fun q hq e => by have h1 := (hrowA.lt q hq).1; have := Option.some.inj e; omega)
    have hgB := grown_into hgA hsB (by omega)
    exact ⟨rfl, _, results_blk1 Try.results16 _ _ (w.heap.size + 1) 26 _ _ hrB Try.underlying26 rfl info26 rfl, _, _, _, rfl, hrowB.base (by omega), hgB⟩
end Go.Proofs.Ytpmjinlbfddmmaa
