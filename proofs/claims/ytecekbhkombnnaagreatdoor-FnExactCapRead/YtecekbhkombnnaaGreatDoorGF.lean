/- FnExactCapRead, walked. -/
import Derived.Test.YtecekbhkombnnaaGreatDoorGE
import Derived.Test.YtecekbhkombnnaaGreatDoorGI
import Derived.Test.YtecekbhkombnnaaGreatDoorEC
import Derived.Test.YtecekbhkombnnaaGreatDoorCR
namespace Go.Proofs.YtecekbhkombnnaaGreatDoor
open Go.RowKit


set_option maxRecDepth 100000 in
set_option maxHeartbeats 16000000 in
theorem exactCapRead_walk (w : World) (hX : MaxC w) (hE : ErrC w) (hP : Pow w) (text : ByteArray) :
    Calls Tryz.prog 6 #[.string text] w fun e w' => e = .returned (.bool true) ∧ w.grownBy w' none := by
  by_cases zt : (text.size : Int) > 1048576
  case pos =>
    go_enter Tryz.func6, Tryz.ntmps6
    go_wp2
    go_ret
    exact ⟨rfl, grown_refl _ _⟩
  obtain ⟨a, b, r, f, u, s, t, M, hx⟩ := read_ex text
  have HM := Lib.hid hx.four
  have HS := Lib.hid (sread_any w text (by omega) hx)
  have HI := Lib.hid (fun (V : World) (hV : w.grownBy V none) => iread_any V (hX.grown hV) (hE.grown hV) (hP.grown hV) text (by omega) hx)
  have tt : (t == t) = true := by simp
  clear hx hX hE hP
  go_enter Tryz.func6, Tryz.ntmps6
  go_wp2_with fail
  refine HS.out.mono ?_
  rintro e w1 ⟨an, cn, rfl, hr1, hg1⟩
  have HG1 := Lib.hid hg1
  obtain ⟨V1, hV1⟩ : ∃ x, w1.alloc (Obj.cells #[Value.string a, .string b, .int .i64 r, .int .i64 f, .int .i64 u, .slice an M.length cn, .string s] 26) = x := ⟨_, rfl⟩
  obtain ⟨D, hD⟩ : ∃ x, w1.heap.size = x := ⟨_, rfl⟩
  have HD := Lib.hid (show Blk V1 D 26 [.string a, .string b, .int .i64 r, .int .i64 f, .int .i64 u, .slice an M.length cn, .string s] from by rw [← hV1, ← hD]; exact Blk.new w1 26 _)
  have HV1 := Lib.hid (show w.grownBy V1 none from by rw [← hV1]; exact grown_alloc HG1.out _)
  have HRS1 := Lib.hid (show Row V1 w.heap.size (.slice an M.length cn) (strs M) from by rw [← hV1]; exact hr1.alloc _)
  have HOS := Lib.hid (show ∀ k, (Value.slice an M.length cn).ownBlock = some k → k < V1.heap.size from fun k hk => (HRS1.out.lt k hk).2)
  have HDL := Lib.hid (show D < V1.heap.size ∧ w.heap.size ≤ V1.heap.size from ⟨HD.out.lt, HV1.out.size⟩)
  have HV1E := Lib.hid hV1
  have HDE := Lib.hid hD
  clear hV1 hD hg1 hr1 HS
  go_wp2_with fail
  rw [HV1E.out, HDE.out]
  refine (HI.out V1 HV1.out).mono ?_
  rintro e w2 ⟨an2, cn2, rfl, hr2, hg2⟩
  obtain ⟨V2, hV2⟩ : ∃ x, w2.alloc (Obj.cells #[Value.string a, .string b, .int .i64 r, .int .i64 f, .int .i64 u, .slice an2 M.length cn2, .string s] 26) = x := ⟨_, rfl⟩
  obtain ⟨E2, hE2⟩ : ∃ x, w2.heap.size = x := ⟨_, rfl⟩
  have HE2 := Lib.hid (show Blk V2 E2 26 [.string a, .string b, .int .i64 r, .int .i64 f, .int .i64 u, .slice an2 M.length cn2, .string s] from by rw [← hV2, ← hE2]; exact Blk.new w2 26 _)
  have HV2 := Lib.hid (show V1.grownBy V2 none from by rw [← hV2]; exact grown_alloc hg2 _)
  have HR2 := Lib.hid (show Row V2 V1.heap.size (.slice an2 M.length cn2) (strs M) from by rw [← hV2]; exact hr2.alloc _)
  have HOB := Lib.hid (show ∀ k, (Value.slice an2 M.length cn2).ownBlock = some k → V1.heap.size ≤ k ∧ k < E2 from fun k hk => by rw [← hE2]; exact hr2.lt k hk)
  have HD2 := Lib.hid (HD.out.kept HV2.out (by simp))
  have HRS2 := Lib.hid (HRS1.out.kept HV2.out (by simp))
  have HV2E := Lib.hid hV2
  have HEE := Lib.hid hE2
  clear hV2 hE2 hr2 hg2
  have c0 : (w2.alloc (Obj.cells #[Value.string a, .string b, .int .i64 r, .int .i64 f, .int .i64 u, .slice an2 M.length cn2, .string s] 26)).cell? ⟨D, 0, none⟩ = some (.string a) := by rw [HV2E.out]; exact HD2.out.cell rfl
  have c1 : (w2.alloc (Obj.cells #[Value.string a, .string b, .int .i64 r, .int .i64 f, .int .i64 u, .slice an2 M.length cn2, .string s] 26)).cell? ⟨D, 1, none⟩ = some (.string b) := by rw [HV2E.out]; exact HD2.out.cell rfl
  have c2 : (w2.alloc (Obj.cells #[Value.string a, .string b, .int .i64 r, .int .i64 f, .int .i64 u, .slice an2 M.length cn2, .string s] 26)).cell? ⟨D, 2, none⟩ = some (.int .i64 r) := by rw [HV2E.out]; exact HD2.out.cell rfl
  have c3 : (w2.alloc (Obj.cells #[Value.string a, .string b, .int .i64 r, .int .i64 f, .int .i64 u, .slice an2 M.length cn2, .string s] 26)).cell? ⟨D, 3, none⟩ = some (.int .i64 f) := by rw [HV2E.out]; exact HD2.out.cell rfl
  have c4 : (w2.alloc (Obj.cells #[Value.string a, .string b, .int .i64 r, .int .i64 f, .int .i64 u, .slice an2 M.length cn2, .string s] 26)).cell? ⟨D, 4, none⟩ = some (.int .i64 u) := by rw [HV2E.out]; exact HD2.out.cell rfl
  have c5 : (w2.alloc (Obj.cells #[Value.string a, .string b, .int .i64 r, .int .i64 f, .int .i64 u, .slice an2 M.length cn2, .string s] 26)).cell? ⟨D, 5, none⟩ = some (.slice an M.length cn) := by rw [HV2E.out]; exact HD2.out.cell rfl
  have c6 : (w2.alloc (Obj.cells #[Value.string a, .string b, .int .i64 r, .int .i64 f, .int .i64 u, .slice an2 M.length cn2, .string s] 26)).cell? ⟨D, 6, none⟩ = some (.string s) := by rw [HV2E.out]; exact HD2.out.cell rfl
  go_wp2_with fail
  rw [HV2E.out, HEE.out]
  clear c0 c1 c2 c3 c4 c5 c6
  refine (eqCap_any V2 a b r f u an2 an cn2 cn M s _ _ HR2.out.lies2 HRS2.out.lies2 (by have := HM.out; omega)).mono ?_
  rintro e w3 ⟨rfl, hg3⟩
  have HG3 := Lib.hid hg3
  have HD3 := Lib.hid (HD2.out.kept hg3 (by simp))
  have HE3 := Lib.hid (HE2.out.kept hg3 (by simp))
  have HR3 := Lib.hid (HR2.out.kept hg3 (by simp))
  have HRS3 := Lib.hid (HRS2.out.kept hg3 (by simp))
  clear hg3
  have d0 : w3.cell? ⟨E2, 0, none⟩ = some (.string a) := HE3.out.cell rfl
  have d1 : w3.cell? ⟨E2, 1, none⟩ = some (.string b) := HE3.out.cell rfl
  have d2 : w3.cell? ⟨E2, 2, none⟩ = some (.int .i64 r) := HE3.out.cell rfl
  have d3 : w3.cell? ⟨E2, 3, none⟩ = some (.int .i64 f) := HE3.out.cell rfl
  have d4 : w3.cell? ⟨E2, 4, none⟩ = some (.int .i64 u) := HE3.out.cell rfl
  have d5 : w3.cell? ⟨E2, 5, none⟩ = some (.slice an2 M.length cn2) := HE3.out.cell rfl
  have d6 : w3.cell? ⟨E2, 6, none⟩ = some (.string s) := HE3.out.cell rfl
  go_wp2_with fail
  clear d0 d1 d2 d3 d4 d5 d6
  refine (markCap_any w3 V1.heap.size a b r f u an2 cn2 M s HR3.out (by have := HM.out; omega) 1 (by omega) (by omega)).mono ?_
  rintro e w4 ⟨rfl, hr4, hg4⟩
  have HD4 := Lib.hid (HD3.out.kept hg4 (fun e => by have h1 := HOB.out D e.symm; have h2 := HDL.out; omega))
  have HE4 := Lib.hid (HE3.out.kept hg4 (fun e => by have h1 := HOB.out E2 e.symm; omega))
  have HR4 := Lib.hid hr4
  have HRS4 := Lib.hid (HRS3.out.kept hg4 (fun k hk e => by have h1 := HOB.out k e.symm; have h2 := HOS.out k hk; omega))
  have HG4 := Lib.hid (show w.grownBy w4 none from grown_own (grown_trans HV1.out (grown_trans HV2.out HG3.out)) hg4 (fun q hq => by have h1 := HOB.out q hq; have h2 := HDL.out; omega))
  clear hr4 hg4
  have d0 : w4.cell? ⟨E2, 0, none⟩ = some (.string a) := HE4.out.cell rfl
  have d1 : w4.cell? ⟨E2, 1, none⟩ = some (.string b) := HE4.out.cell rfl
  have d2 : w4.cell? ⟨E2, 2, none⟩ = some (.int .i64 r) := HE4.out.cell rfl
  have d3 : w4.cell? ⟨E2, 3, none⟩ = some (.int .i64 f) := HE4.out.cell rfl
  have d4 : w4.cell? ⟨E2, 4, none⟩ = some (.int .i64 u) := HE4.out.cell rfl
  have d5 : w4.cell? ⟨E2, 5, none⟩ = some (.slice an2 M.length cn2) := HE4.out.cell rfl
  have d6 : w4.cell? ⟨E2, 6, none⟩ = some (.string s) := HE4.out.cell rfl
  go_wp2_with fail
  clear d0 d1 d2 d3 d4 d5 d6
  refine (heldCap_any w4 V1.heap.size a b r f u an2 cn2 M.length s 1 HR4.out (by have := HM.out; omega) (by omega) (by omega)).mono ?_
  rintro e w5 ⟨rfl, hg5⟩
  have HG5 := Lib.hid (grown_trans HG4.out hg5)
  have HD5 := Lib.hid (HD4.out.kept hg5 (by simp))
  have HE5 := Lib.hid (HE4.out.kept hg5 (by simp))
  have HR5 := Lib.hid (HR4.out.kept hg5 (by simp))
  have HRS5 := Lib.hid (HRS4.out.kept hg5 (by simp))
  have hk5 : ¬ (((1 + M.length : Nat) : Int)) < 0 := by omega
  clear hg5
  go_wp2_with fail
  refine (HI.out w5 HG5.out).mono ?_
  rintro e w6 ⟨an3, cn3, rfl, hr6, hg6⟩
  obtain ⟨V6, hV6⟩ : ∃ x, w6.alloc (Obj.cells #[Value.string a, .string b, .int .i64 r, .int .i64 f, .int .i64 u, .slice an3 M.length cn3, .string s] 26) = x := ⟨_, rfl⟩
  obtain ⟨E6, hE6⟩ : ∃ x, w6.heap.size = x := ⟨_, rfl⟩
  have HE6 := Lib.hid (show Blk V6 E6 26 [.string a, .string b, .int .i64 r, .int .i64 f, .int .i64 u, .slice an3 M.length cn3, .string s] from by rw [← hV6, ← hE6]; exact Blk.new w6 26 _)
  have HV6 := Lib.hid (show w5.grownBy V6 none from by rw [← hV6]; exact grown_alloc hg6 _)
  have HQ6 := Lib.hid (show Row V6 w5.heap.size (.slice an3 M.length cn3) (strs M) from by rw [← hV6]; exact hr6.alloc _)
  have HD6 := Lib.hid (HD5.out.kept HV6.out (by simp))
  have HE26 := Lib.hid (HE5.out.kept HV6.out (by simp))
  have HR6 := Lib.hid (HR5.out.kept HV6.out (by simp))
  have HRS6 := Lib.hid (HRS5.out.kept HV6.out (by simp))
  have HG6 := Lib.hid (grown_trans HG5.out HV6.out)
  have HV6E := Lib.hid hV6
  have HE6E := Lib.hid hE6
  clear hV6 hE6 hg6 hr6
  have c0 : (w6.alloc (Obj.cells #[Value.string a, .string b, .int .i64 r, .int .i64 f, .int .i64 u, .slice an3 M.length cn3, .string s] 26)).cell? ⟨D, 0, none⟩ = some (.string a) := by rw [HV6E.out]; exact HD6.out.cell rfl
  have c1 : (w6.alloc (Obj.cells #[Value.string a, .string b, .int .i64 r, .int .i64 f, .int .i64 u, .slice an3 M.length cn3, .string s] 26)).cell? ⟨D, 1, none⟩ = some (.string b) := by rw [HV6E.out]; exact HD6.out.cell rfl
  have c2 : (w6.alloc (Obj.cells #[Value.string a, .string b, .int .i64 r, .int .i64 f, .int .i64 u, .slice an3 M.length cn3, .string s] 26)).cell? ⟨D, 2, none⟩ = some (.int .i64 r) := by rw [HV6E.out]; exact HD6.out.cell rfl
  have c3 : (w6.alloc (Obj.cells #[Value.string a, .string b, .int .i64 r, .int .i64 f, .int .i64 u, .slice an3 M.length cn3, .string s] 26)).cell? ⟨D, 3, none⟩ = some (.int .i64 f) := by rw [HV6E.out]; exact HD6.out.cell rfl
  have c4 : (w6.alloc (Obj.cells #[Value.string a, .string b, .int .i64 r, .int .i64 f, .int .i64 u, .slice an3 M.length cn3, .string s] 26)).cell? ⟨D, 4, none⟩ = some (.int .i64 u) := by rw [HV6E.out]; exact HD6.out.cell rfl
  have c5 : (w6.alloc (Obj.cells #[Value.string a, .string b, .int .i64 r, .int .i64 f, .int .i64 u, .slice an3 M.length cn3, .string s] 26)).cell? ⟨D, 5, none⟩ = some (.slice an M.length cn) := by rw [HV6E.out]; exact HD6.out.cell rfl
  have c6 : (w6.alloc (Obj.cells #[Value.string a, .string b, .int .i64 r, .int .i64 f, .int .i64 u, .slice an3 M.length cn3, .string s] 26)).cell? ⟨D, 6, none⟩ = some (.string s) := by rw [HV6E.out]; exact HD6.out.cell rfl
  go_wp2_with fail
  rw [HV6E.out, HE6E.out]
  clear c0 c1 c2 c3 c4 c5 c6
  refine (eqCap_any V6 a b r f u an3 an cn3 cn M s _ _ HQ6.out.lies2 HRS6.out.lies2 (by have := HM.out; omega)).mono ?_
  rintro e w7 ⟨rfl, hg7⟩
  have HE7 := Lib.hid (HE26.out.kept hg7 (by simp))
  have HR7 := Lib.hid (HR6.out.kept hg7 (by simp))
  have HG7 := Lib.hid (grown_trans HG6.out hg7)
  clear hg7
  have d0 : w7.cell? ⟨E2, 0, none⟩ = some (.string a) := HE7.out.cell rfl
  have d1 : w7.cell? ⟨E2, 1, none⟩ = some (.string b) := HE7.out.cell rfl
  have d2 : w7.cell? ⟨E2, 2, none⟩ = some (.int .i64 r) := HE7.out.cell rfl
  have d3 : w7.cell? ⟨E2, 3, none⟩ = some (.int .i64 f) := HE7.out.cell rfl
  have d4 : w7.cell? ⟨E2, 4, none⟩ = some (.int .i64 u) := HE7.out.cell rfl
  have d5 : w7.cell? ⟨E2, 5, none⟩ = some (.slice an2 M.length cn2) := HE7.out.cell rfl
  have d6 : w7.cell? ⟨E2, 6, none⟩ = some (.string s) := HE7.out.cell rfl
  go_wp2_with fail
  clear d0 d1 d2 d3 d4 d5 d6
  refine (heldCap_any w7 V1.heap.size a b r f u an2 cn2 M.length s 1 HR7.out (by have := HM.out; omega) (by omega) (by omega)).mono ?_
  rintro e w8 ⟨rfl, hg8⟩
  have HG8 := Lib.hid (grown_trans HG7.out hg8)
  clear hg8
  go_wp2
  go_ret
  exact ⟨rfl, HG8.out⟩
end Go.Proofs.YtecekbhkombnnaaGreatDoor
