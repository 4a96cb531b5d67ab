/- FnExactCapMint, walked. -/
import Derived.Test.YtecekbhkombnnaaDoorEB
import Derived.Test.YtecekbhkombnnaaDoorEC
import Derived.Test.YtecekbhkombnnaaDoorCR
namespace Go.Proofs.YtecekbhkombnnaaDoor
open Go.RowKit

theorem MintR.form {w : World} {key tn sp : ByteArray} {run frm unt : Int} {e : Ending} {w' : World} (h : MintR w key tn sp run frm unt e w') {a b : ByteArray} {r f u : Int} {s : ByteArray} {t : Bool}
    (hx : (RunP tn sp run ∧ TickP frm unt ∧ a = tn ∧ b = sp ∧ r = run ∧ f = frm ∧ u = unt ∧ s = macB key (headC tn sp run.toNat frm.toNat unt.toNat) ∧ t = true) ∨ (¬ (RunP tn sp run ∧ TickP frm unt) ∧ a = ⟨#[]⟩ ∧ b = ⟨#[]⟩ ∧ r = 0 ∧ f = 0 ∧ u = 0 ∧ s = ⟨#[]⟩ ∧ t = false)) :
    ∃ (an : Option Addr) (cn : Nat), e = .returned (.tuple #[.agg #[.string a, .string b, .int .i64 r, .int .i64 f, .int .i64 u, .slice an 0 cn, .string s], .bool t]) ∧ Row w' w.heap.size (.slice an 0 cn) (strs []) := by
  rcases h with ⟨h1, h2, v, rfl, hr⟩ | ⟨h1, rfl⟩
  · rcases hx with ⟨-, -, rfl, rfl, rfl, rfl, rfl, rfl, rfl⟩ | ⟨h3, -⟩
    · obtain ⟨an, cn, hv, -⟩ := hr.lies
      subst hv
      exact ⟨an, cn, rfl, hr⟩
    · exact absurd ⟨h1, h2⟩ h3
  · rcases hx with ⟨h3, h4, -⟩ | ⟨-, rfl, rfl, rfl, rfl, rfl, rfl, rfl⟩
    · exact absurd ⟨h3, h4⟩ h1
    · exact ⟨none, 0, rfl, Row.nil _ _⟩
theorem mint_both (key tn sp : ByteArray) (run frm unt : Int) (hk : key.size ≤ 1048576) (h1 : tn.size ≤ 1048576) (h2 : sp.size ≤ 1048576) : ∃ (a b : ByteArray) (r f u : Int) (s : ByteArray) (t : Bool),
    (∀ w : World, Calls Tryd.prog 5 #[.string key, .string tn, .string sp, .int .i64 run, .int .i64 frm, .int .i64 unt] w fun e w' => ∃ (an : Option Addr) (cn : Nat), e = .returned (.tuple #[.agg #[.string a, .string b, .int .i64 r, .int .i64 f, .int .i64 u, .slice an 0 cn, .string s], .bool t]) ∧ Row w' w.heap.size (.slice an 0 cn) (strs []) ∧ w.grownBy w' none) ∧
    (∀ w : World, Tabs w → Pow w → Calls Tryd.prog 6 #[.string key, .string tn, .string sp, .int .i64 run, .int .i64 frm, .int .i64 unt] w fun e w' => ∃ (an : Option Addr) (cn : Nat), e = .returned (.tuple #[.agg #[.string a, .string b, .int .i64 r, .int .i64 f, .int .i64 u, .slice an 0 cn, .string s], .bool t]) ∧ Row w' w.heap.size (.slice an 0 cn) (strs []) ∧ w.grownBy w' none) := by
  by_cases hp : RunP tn sp run ∧ TickP frm unt
  · refine ⟨tn, sp, run, frm, unt, macB key (headC tn sp run.toNat frm.toNat unt.toNat), true, fun w => (smint_any w key tn sp run frm unt hk h1 h2).mono fun e w' q => ?_, fun w hT hP => (imint_any w hT hP key tn sp run frm unt hk h1 h2).mono fun e w' q => ?_⟩
    all_goals
      obtain ⟨an, cn, q1, q2⟩ := q.1.form (.inl ⟨hp.1, hp.2, rfl, rfl, rfl, rfl, rfl, rfl, rfl⟩)
      exact ⟨an, cn, q1, q2, q.2⟩
  · refine ⟨⟨#[]⟩, ⟨#[]⟩, 0, 0, 0, ⟨#[]⟩, false, fun w => (smint_any w key tn sp run frm unt hk h1 h2).mono fun e w' q => ?_, fun w hT hP => (imint_any w hT hP key tn sp run frm unt hk h1 h2).mono fun e w' q => ?_⟩
    all_goals
      obtain ⟨an, cn, q1, q2⟩ := q.1.form (.inr ⟨hp, rfl, rfl, rfl, rfl, rfl, rfl, rfl⟩)
      exact ⟨an, cn, q1, q2, q.2⟩

set_option maxRecDepth 100000 in
set_option maxHeartbeats 16000000 in
theorem exactCapMint_walk (w : World) (hT : Tabs w) (hP : Pow w) (key tn sp : ByteArray) (run frm unt : Int) :
    Calls Tryd.prog 3 #[.string key, .string tn, .string sp, .int .i64 run, .int .i64 frm, .int .i64 unt] w fun e w' => e = .returned (.bool true) ∧ w.grownBy w' none := by
  by_cases zkey : (key.size : Int) > 1048576
  case pos =>
    go_enter Tryd.func3, Tryd.ntmps3
    go_wp2
    go_ret
    exact ⟨rfl, grown_refl _ _⟩
  by_cases ztn : (tn.size : Int) > 1048576
  case pos =>
    go_enter Tryd.func3, Tryd.ntmps3
    go_wp2
    go_ret
    exact ⟨rfl, grown_refl _ _⟩
  by_cases zsp : (sp.size : Int) > 1048576
  case pos =>
    go_enter Tryd.func3, Tryd.ntmps3
    go_wp2
    go_ret
    exact ⟨rfl, grown_refl _ _⟩
  obtain ⟨a, b, r, f, u, s, t, hS, hI⟩ := mint_both key tn sp run frm unt (by omega) (by omega) (by omega)
  have HS := Lib.hid hS
  have HI := Lib.hid (fun (V : World) (hV : w.grownBy V none) => hI V (hT.grown hV) (hP.grown hV))
  have tt : (t == t) = true := by simp
  clear hS hI hT hP
  go_enter Tryd.func3, Tryd.ntmps3
  go_wp2_with fail
  refine (HS.out w).mono ?_
  rintro e w1 ⟨an, cn, rfl, -, hg1⟩
  have HG1 := Lib.hid hg1
  clear hg1 HS
  obtain ⟨V1, hV1⟩ : ∃ x, w1.alloc (Obj.cells #[Value.string a, .string b, .int .i64 r, .int .i64 f, .int .i64 u, .slice an 0 cn, .string s] 24) = x := ⟨_, rfl⟩
  obtain ⟨D, hD⟩ : ∃ x, w1.heap.size = x := ⟨_, rfl⟩
  have HD := Lib.hid (show Blk V1 D 24 [.string a, .string b, .int .i64 r, .int .i64 f, .int .i64 u, .slice an 0 cn, .string s] from by rw [← hV1, ← hD]; exact Blk.new w1 24 _)
  have HV1 := Lib.hid (show w.grownBy V1 none from by rw [← hV1]; exact grown_alloc HG1.out _)
  have HDL := Lib.hid (show D < V1.heap.size ∧ w.heap.size ≤ V1.heap.size from ⟨HD.out.lt, HV1.out.size⟩)
  have HV1E := Lib.hid hV1
  have HDE := Lib.hid hD
  clear hV1 hD
  go_wp2_with fail
  rw [HV1E.out, HDE.out]
  refine (HI.out V1 HV1.out).mono ?_
  rintro e w2 ⟨an2, cn2, rfl, hr2, hg2⟩
  obtain ⟨V2, hV2⟩ : ∃ x, w2.alloc (Obj.cells #[Value.string a, .string b, .int .i64 r, .int .i64 f, .int .i64 u, .slice an2 0 cn2, .string s] 24) = x := ⟨_, rfl⟩
  obtain ⟨E2, hE2⟩ : ∃ x, w2.heap.size = x := ⟨_, rfl⟩
  have HE2 := Lib.hid (show Blk V2 E2 24 [.string a, .string b, .int .i64 r, .int .i64 f, .int .i64 u, .slice an2 0 cn2, .string s] from by rw [← hV2, ← hE2]; exact Blk.new w2 24 _)
  have HV2 := Lib.hid (show V1.grownBy V2 none from by rw [← hV2]; exact grown_alloc hg2 _)
  have HR2 := Lib.hid (show Row V2 V1.heap.size (.slice an2 0 cn2) (strs []) from by rw [← hV2]; exact hr2.alloc _)
  have HOB := Lib.hid (show ∀ k, (Value.slice an2 0 cn2).ownBlock = some k → V1.heap.size ≤ k ∧ k < E2 from fun k hk => by rw [← hE2]; exact hr2.lt k hk)
  have HD2 := Lib.hid (HD.out.kept HV2.out (by simp))
  have HV2E := Lib.hid hV2
  have HEE := Lib.hid hE2
  clear hV2 hE2 hr2 hg2
  have c0 : (w2.alloc (Obj.cells #[Value.string a, .string b, .int .i64 r, .int .i64 f, .int .i64 u, .slice an2 0 cn2, .string s] 24)).cell? ⟨D, 0, none⟩ = some (.string a) := by rw [HV2E.out]; exact HD2.out.cell rfl
  have c1 : (w2.alloc (Obj.cells #[Value.string a, .string b, .int .i64 r, .int .i64 f, .int .i64 u, .slice an2 0 cn2, .string s] 24)).cell? ⟨D, 1, none⟩ = some (.string b) := by rw [HV2E.out]; exact HD2.out.cell rfl
  have c2 : (w2.alloc (Obj.cells #[Value.string a, .string b, .int .i64 r, .int .i64 f, .int .i64 u, .slice an2 0 cn2, .string s] 24)).cell? ⟨D, 2, none⟩ = some (.int .i64 r) := by rw [HV2E.out]; exact HD2.out.cell rfl
  have c3 : (w2.alloc (Obj.cells #[Value.string a, .string b, .int .i64 r, .int .i64 f, .int .i64 u, .slice an2 0 cn2, .string s] 24)).cell? ⟨D, 3, none⟩ = some (.int .i64 f) := by rw [HV2E.out]; exact HD2.out.cell rfl
  have c4 : (w2.alloc (Obj.cells #[Value.string a, .string b, .int .i64 r, .int .i64 f, .int .i64 u, .slice an2 0 cn2, .string s] 24)).cell? ⟨D, 4, none⟩ = some (.int .i64 u) := by rw [HV2E.out]; exact HD2.out.cell rfl
  have c5 : (w2.alloc (Obj.cells #[Value.string a, .string b, .int .i64 r, .int .i64 f, .int .i64 u, .slice an2 0 cn2, .string s] 24)).cell? ⟨D, 5, none⟩ = some (.slice an 0 cn) := by rw [HV2E.out]; exact HD2.out.cell rfl
  have c6 : (w2.alloc (Obj.cells #[Value.string a, .string b, .int .i64 r, .int .i64 f, .int .i64 u, .slice an2 0 cn2, .string s] 24)).cell? ⟨D, 6, none⟩ = some (.string s) := by rw [HV2E.out]; exact HD2.out.cell rfl
  go_wp2_with fail
  rw [HV2E.out, HEE.out]
  clear c0 c1 c2 c3 c4 c5 c6
  refine (eqCap_any V2 a b r f u an2 an cn2 cn [] s 0 0 (.inl rfl) (.inl rfl) (by simp)).mono ?_
  rintro e w3 ⟨rfl, hg3⟩
  have HG3 := Lib.hid hg3
  have HD3 := Lib.hid (HD2.out.kept hg3 (by simp))
  have HE3 := Lib.hid (HE2.out.kept hg3 (by simp))
  have HR3 := Lib.hid (HR2.out.kept hg3 (by simp))
  clear hg3
  have d0 : w3.cell? ⟨E2, 0, none⟩ = some (.string a) := HE3.out.cell rfl
  have d1 : w3.cell? ⟨E2, 1, none⟩ = some (.string b) := HE3.out.cell rfl
  have d2 : w3.cell? ⟨E2, 2, none⟩ = some (.int .i64 r) := HE3.out.cell rfl
  have d3 : w3.cell? ⟨E2, 3, none⟩ = some (.int .i64 f) := HE3.out.cell rfl
  have d4 : w3.cell? ⟨E2, 4, none⟩ = some (.int .i64 u) := HE3.out.cell rfl
  have d5 : w3.cell? ⟨E2, 5, none⟩ = some (.slice an2 0 cn2) := HE3.out.cell rfl
  have d6 : w3.cell? ⟨E2, 6, none⟩ = some (.string s) := HE3.out.cell rfl
  go_wp2_with fail
  clear d0 d1 d2 d3 d4 d5 d6
  refine (markCap_any w3 V1.heap.size a b r f u an2 cn2 [] s HR3.out (by simp) 1 (by omega) (by omega)).mono ?_
  rintro e w4 ⟨rfl, hr4, hg4⟩
  have HD4 := Lib.hid (HD3.out.kept hg4 (fun e => by have h1 := HOB.out D e.symm; have h2 := HDL.out; omega))
  have HE4 := Lib.hid (HE3.out.kept hg4 (fun e => by have h1 := HOB.out E2 e.symm; omega))
  have HR4 := Lib.hid (show Row w4 V1.heap.size (.slice an2 0 cn2) (strs (marks 1 0)) from hr4)
  have HG4 := Lib.hid (show w.grownBy w4 none from grown_own (grown_trans HV1.out (grown_trans HV2.out HG3.out)) hg4 (fun q hq => by have h1 := HOB.out q hq; have h2 := HDL.out; omega))
  clear hr4 hg4
  have d0 : w4.cell? ⟨E2, 0, none⟩ = some (.string a) := HE4.out.cell rfl
  have d1 : w4.cell? ⟨E2, 1, none⟩ = some (.string b) := HE4.out.cell rfl
  have d2 : w4.cell? ⟨E2, 2, none⟩ = some (.int .i64 r) := HE4.out.cell rfl
  have d3 : w4.cell? ⟨E2, 3, none⟩ = some (.int .i64 f) := HE4.out.cell rfl
  have d4 : w4.cell? ⟨E2, 4, none⟩ = some (.int .i64 u) := HE4.out.cell rfl
  have d5 : w4.cell? ⟨E2, 5, none⟩ = some (.slice an2 0 cn2) := HE4.out.cell rfl
  have d6 : w4.cell? ⟨E2, 6, none⟩ = some (.string s) := HE4.out.cell rfl
  go_wp2_with fail
  clear d0 d1 d2 d3 d4 d5 d6
  refine (heldCap_any w4 V1.heap.size a b r f u an2 cn2 0 s 1 HR4.out (by omega) (by omega) (by omega)).mono ?_
  rintro e w5 ⟨rfl, hg5⟩
  have HG5 := Lib.hid (grown_trans HG4.out hg5)
  have HD5 := Lib.hid (HD4.out.kept hg5 (by simp))
  have HE5 := Lib.hid (HE4.out.kept hg5 (by simp))
  have HR5 := Lib.hid (HR4.out.kept hg5 (by simp))
  clear hg5
  go_wp2_with fail
  refine (HI.out w5 HG5.out).mono ?_
  rintro e w6 ⟨an3, cn3, rfl, -, hg6⟩
  obtain ⟨V6, hV6⟩ : ∃ x, w6.alloc (Obj.cells #[Value.string a, .string b, .int .i64 r, .int .i64 f, .int .i64 u, .slice an3 0 cn3, .string s] 24) = x := ⟨_, rfl⟩
  obtain ⟨E6, hE6⟩ : ∃ x, w6.heap.size = x := ⟨_, rfl⟩
  have HE6 := Lib.hid (show Blk V6 E6 24 [.string a, .string b, .int .i64 r, .int .i64 f, .int .i64 u, .slice an3 0 cn3, .string s] from by rw [← hV6, ← hE6]; exact Blk.new w6 24 _)
  have HV6 := Lib.hid (show w5.grownBy V6 none from by rw [← hV6]; exact grown_alloc hg6 _)
  have HD6 := Lib.hid (HD5.out.kept HV6.out (by simp))
  have HE26 := Lib.hid (HE5.out.kept HV6.out (by simp))
  have HR6 := Lib.hid (HR5.out.kept HV6.out (by simp))
  have HG6 := Lib.hid (grown_trans HG5.out HV6.out)
  have HV6E := Lib.hid hV6
  have HE6E := Lib.hid hE6
  clear hV6 hE6 hg6
  have c0 : (w6.alloc (Obj.cells #[Value.string a, .string b, .int .i64 r, .int .i64 f, .int .i64 u, .slice an3 0 cn3, .string s] 24)).cell? ⟨D, 0, none⟩ = some (.string a) := by rw [HV6E.out]; exact HD6.out.cell rfl
  have c1 : (w6.alloc (Obj.cells #[Value.string a, .string b, .int .i64 r, .int .i64 f, .int .i64 u, .slice an3 0 cn3, .string s] 24)).cell? ⟨D, 1, none⟩ = some (.string b) := by rw [HV6E.out]; exact HD6.out.cell rfl
  have c2 : (w6.alloc (Obj.cells #[Value.string a, .string b, .int .i64 r, .int .i64 f, .int .i64 u, .slice an3 0 cn3, .string s] 24)).cell? ⟨D, 2, none⟩ = some (.int .i64 r) := by rw [HV6E.out]; exact HD6.out.cell rfl
  have c3 : (w6.alloc (Obj.cells #[Value.string a, .string b, .int .i64 r, .int .i64 f, .int .i64 u, .slice an3 0 cn3, .string s] 24)).cell? ⟨D, 3, none⟩ = some (.int .i64 f) := by rw [HV6E.out]; exact HD6.out.cell rfl
  have c4 : (w6.alloc (Obj.cells #[Value.string a, .string b, .int .i64 r, .int .i64 f, .int .i64 u, .slice an3 0 cn3, .string s] 24)).cell? ⟨D, 4, none⟩ = some (.int .i64 u) := by rw [HV6E.out]; exact HD6.out.cell rfl
  have c5 : (w6.alloc (Obj.cells #[Value.string a, .string b, .int .i64 r, .int .i64 f, .int .i64 u, .slice an3 0 cn3, .string s] 24)).cell? ⟨D, 5, none⟩ = some (.slice an 0 cn) := by rw [HV6E.out]; exact HD6.out.cell rfl
  have c6 : (w6.alloc (Obj.cells #[Value.string a, .string b, .int .i64 r, .int .i64 f, .int .i64 u, .slice an3 0 cn3, .string s] 24)).cell? ⟨D, 6, none⟩ = some (.string s) := by rw [HV6E.out]; exact HD6.out.cell rfl
  go_wp2_with fail
  rw [HV6E.out, HE6E.out]
  clear c0 c1 c2 c3 c4 c5 c6
  refine (eqCap_any V6 a b r f u an3 an cn3 cn [] s 0 0 (.inl rfl) (.inl rfl) (by simp)).mono ?_
  rintro e w7 ⟨rfl, hg7⟩
  have HE7 := Lib.hid (HE26.out.kept hg7 (by simp))
  have HR7 := Lib.hid (HR6.out.kept hg7 (by simp))
  have HG7 := Lib.hid (grown_trans HG6.out hg7)
  clear hg7
  have d0 : w7.cell? ⟨E2, 0, none⟩ = some (.string a) := HE7.out.cell rfl
  have d1 : w7.cell? ⟨E2, 1, none⟩ = some (.string b) := HE7.out.cell rfl
  have d2 : w7.cell? ⟨E2, 2, none⟩ = some (.int .i64 r) := HE7.out.cell rfl
  have d3 : w7.cell? ⟨E2, 3, none⟩ = some (.int .i64 f) := HE7.out.cell rfl
  have d4 : w7.cell? ⟨E2, 4, none⟩ = some (.int .i64 u) := HE7.out.cell rfl
  have d5 : w7.cell? ⟨E2, 5, none⟩ = some (.slice an2 0 cn2) := HE7.out.cell rfl
  have d6 : w7.cell? ⟨E2, 6, none⟩ = some (.string s) := HE7.out.cell rfl
  go_wp2_with fail
  clear d0 d1 d2 d3 d4 d5 d6
  refine (heldCap_any w7 V1.heap.size a b r f u an2 cn2 0 s 1 HR7.out (by omega) (by omega) (by omega)).mono ?_
  rintro e w8 ⟨rfl, hg8⟩
  have HG8 := Lib.hid (grown_trans HG7.out hg8)
  clear hg8
  go_wp2
  go_ret
  exact ⟨rfl, HG8.out⟩
end Go.Proofs.YtecekbhkombnnaaDoor
