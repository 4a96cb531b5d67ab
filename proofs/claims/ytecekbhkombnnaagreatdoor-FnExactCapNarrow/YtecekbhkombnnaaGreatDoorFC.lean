/- FnExactCapNarrow, walked. -/
import Derived.Test.YtecekbhkombnnaaGreatDoorFB
import Derived.Test.YtecekbhkombnnaaGreatDoorEC
import Derived.Test.YtecekbhkombnnaaGreatDoorCR
namespace Go.Proofs.YtecekbhkombnnaaGreatDoor
open Go.RowKit

theorem Row.lies2 {w : World} {base n cn : Nat} {an : Option Addr} {ss : List ByteArray} (h : Row w base (.slice an n cn) (strs ss)) : Lies w base an ss := by
  obtain ⟨a, c, h1, h2⟩ := h.lies
  cases h1
  exact h2
theorem NarR.form {w : World} {tn sp : ByteArray} {run frm unt : Int} {ls : List ByteArray} {se lim : ByteArray} {e : Ending} {w' : World} (h : NarR w tn sp run frm unt ls se lim e w') {a b : ByteArray} {r f u : Int} {s : ByteArray} {t : Bool} {M : List ByteArray}
    (hx : ((CapP tn sp run frm unt ls se ∧ LimP lim ∧ ls.length < 4) ∧ a = tn ∧ b = sp ∧ r = run ∧ f = frm ∧ u = unt ∧ s = macB se lim ∧ t = true ∧ M = ls ++ [lim]) ∨ (¬ (CapP tn sp run frm unt ls se ∧ LimP lim ∧ ls.length < 4) ∧ a = ⟨#[]⟩ ∧ b = ⟨#[]⟩ ∧ r = 0 ∧ f = 0 ∧ u = 0 ∧ s = ⟨#[]⟩ ∧ t = false ∧ M = [])) :
    ∃ (an : Option Addr) (cn : Nat), e = .returned (.tuple #[.agg #[.string a, .string b, .int .i64 r, .int .i64 f, .int .i64 u, .slice an M.length cn, .string s], .bool t]) ∧ Row w' w.heap.size (.slice an M.length cn) (strs M) := by
  rcases h with ⟨h1, v, rfl, hr⟩ | ⟨h1, rfl⟩
  · rcases hx with ⟨-, rfl, rfl, rfl, rfl, rfl, rfl, rfl, rfl⟩ | ⟨h3, -⟩
    · obtain ⟨an, cn, hv, -⟩ := hr.lies
      subst hv
      exact ⟨an, cn, rfl, hr⟩
    · exact absurd h1 h3
  · rcases hx with ⟨h3, -⟩ | ⟨-, rfl, rfl, rfl, rfl, rfl, rfl, rfl, rfl⟩
    · exact absurd h3 h1
    · exact ⟨none, 0, rfl, Row.nil _ _⟩
theorem nar_both (tn sp : ByteArray) (run frm unt : Int) (ls : List ByteArray) (se lim : ByteArray) (hz : CapZ tn sp ls se) (h4 : lim.size ≤ 1048576) : ∃ (a b : ByteArray) (r f u : Int) (s : ByteArray) (t : Bool) (M : List ByteArray), M.length ≤ 4 ∧
    (∀ (w : World) (x1 cp : Nat), Blk w x1 9 (strs ls) → Calls Tryz.prog 8 #[.agg #[.string tn, .string sp, .int .i64 run, .int .i64 frm, .int .i64 unt, .slice (some ⟨x1, 0, none⟩) ls.length cp, .string se], .string lim] w fun e w' => ∃ (an : Option Addr) (cn : Nat), e = .returned (.tuple #[.agg #[.string a, .string b, .int .i64 r, .int .i64 f, .int .i64 u, .slice an M.length cn, .string s], .bool t]) ∧ Row w' w.heap.size (.slice an M.length cn) (strs M) ∧ w.grownBy w' none) ∧
    (∀ (w : World) (x1 cp : Nat), Blk w x1 9 (strs ls) → Tabs w → ErrC w → Pow w → Calls Tryz.prog 10 #[.agg #[.string tn, .string sp, .int .i64 run, .int .i64 frm, .int .i64 unt, .slice (some ⟨x1, 0, none⟩) ls.length cp, .string se], .string lim] w fun e w' => ∃ (an : Option Addr) (cn : Nat), e = .returned (.tuple #[.agg #[.string a, .string b, .int .i64 r, .int .i64 f, .int .i64 u, .slice an M.length cn, .string s], .bool t]) ∧ Row w' w.heap.size (.slice an M.length cn) (strs M) ∧ w.grownBy w' none) := by
  obtain ⟨h1, h2, h5, h3⟩ := hz
  have hn : ls.length ≤ 1048576 := by omega
  have hzl : ∀ l ∈ ls, l.size ≤ 1048576 := fun l hl => by have := bulkS_mem ls l hl; omega
  by_cases hp : CapP tn sp run frm unt ls se ∧ LimP lim ∧ ls.length < 4
  · refine ⟨tn, sp, run, frm, unt, macB se lim, true, ls ++ [lim], by have := hp.2.2; simp; omega, fun w x1 cp hx => (snar_any w tn sp run frm unt x1 cp ls se lim hx hn hzl h1 h2 h3 h4).mono fun e w' q => ?_, fun w x1 cp hx hT hE hP => (inar_any w hT hE hP tn sp run frm unt x1 cp ls se lim hx hn hzl h1 h2 h3 h4).mono fun e w' q => ?_⟩
    all_goals
      obtain ⟨an, cn, q1, q2⟩ := q.1.form (.inl ⟨hp, rfl, rfl, rfl, rfl, rfl, rfl, rfl, rfl⟩)
      exact ⟨an, cn, q1, q2, q.2⟩
  · refine ⟨⟨#[]⟩, ⟨#[]⟩, 0, 0, 0, ⟨#[]⟩, false, [], by simp, fun w x1 cp hx => (snar_any w tn sp run frm unt x1 cp ls se lim hx hn hzl h1 h2 h3 h4).mono fun e w' q => ?_, fun w x1 cp hx hT hE hP => (inar_any w hT hE hP tn sp run frm unt x1 cp ls se lim hx hn hzl h1 h2 h3 h4).mono fun e w' q => ?_⟩
    all_goals
      obtain ⟨an, cn, q1, q2⟩ := q.1.form (.inr ⟨hp, rfl, rfl, rfl, rfl, rfl, rfl, rfl, rfl⟩)
      exact ⟨an, cn, q1, q2, q.2⟩

set_option maxRecDepth 100000 in
set_option maxHeartbeats 32000000 in
theorem exactCapNarrow_walk (w : World) (hT : Tabs w) (hE : ErrC w) (hP : Pow w) (tn sp : ByteArray) (run frm unt : Int) (ao : Option Addr) (cp : Nat) (ls : List ByteArray) (se : ByteArray) (lim : ByteArray) (hl : Lies w 0 ao ls) (hn : ls.length ≤ 9223372036854775807) (hz : ∀ l ∈ ls, l.size ≤ 9223372036854775807) (h1 : tn.size ≤ 9223372036854775807) (h2 : sp.size ≤ 9223372036854775807) (h3 : se.size ≤ 9223372036854775807) :
    Calls Tryz.prog 3 #[.agg #[.string tn, .string sp, .int .i64 run, .int .i64 frm, .int .i64 unt, .slice ao ls.length cp, .string se], .string lim] w fun e w' => e = .returned (.bool true) ∧ w.grownBy w' none := by
  obtain ⟨W, hW⟩ : ∃ W, w.alloc (Obj.cells #[Value.string tn, .string sp, .int .i64 run, .int .i64 frm, .int .i64 unt, .slice ao ls.length cp, .string se] 24) = W := ⟨_, rfl⟩
  obtain ⟨A, hA⟩ : ∃ x, w.heap.size = x := ⟨_, rfl⟩
  have HG := Lib.hid (show w.grownBy W none from by rw [← hW]; exact grown_alloc (grown_refl _ _) _)
  have HA := Lib.hid (show Blk W A 24 [.string tn, .string sp, .int .i64 run, .int .i64 frm, .int .i64 unt, .slice ao ls.length cp, .string se] from by rw [← hW, ← hA]; exact Blk.new w 24 _)
  have HSZ := Lib.hid (szCap_any W tn sp run frm unt ao cp ls se (hl.kept HG.out (fun q e => by cases e)) hn hz h1 h2 h3)
  have HL := Lib.hid hl
  have HE := Lib.hid hE
  have HP := Lib.hid hP
  have HT := Lib.hid hT
  have HW := Lib.hid hW
  have HAE := Lib.hid hA
  have HAW := Lib.hid (show w.heap.size ≤ A from by omega)
  clear hl hz h1 h2 h3 hE hP hW hA hT
  by_cases z1 : (lim.size : Int) > 1048576
  case pos =>
    go_enter Tryz.func3, Tryz.ntmps3
    go_wp2
    rw [HW.out]
    go_ret
    exact ⟨rfl, HG.out⟩
  go_enter Tryz.func3, Tryz.ntmps3
  go_wp2_with fail
  rw [HW.out, HAE.out]
  refine HSZ.out.mono ?_
  rintro e w0 ⟨k, rfl, hr, hg⟩
  have HG0 := Lib.hid (grown_trans HG.out hg)
  have HA0 := Lib.hid (HA.out.kept hg (by simp))
  clear hg HSZ HA HG HW
  rcases hr with hr | ⟨hr0, hcz⟩
  · go_wp2
    go_ret
    exact ⟨rfl, HG0.out⟩
  have hr' : ¬ k < 0 := by omega
  have hn1 : ls.length ≤ 1048576 := by have := hcz.2.2.1; omega
  obtain ⟨a, b, r, f, u, s, t, M, hM, hS, hI⟩ := nar_both tn sp run frm unt ls se lim hcz (by omega)
  have HS := Lib.hid hS
  have HI := Lib.hid (fun (V : World) (x1 cp : Nat) (hx : Blk V x1 9 (strs ls)) (hV : w.grownBy V none) => hI V x1 cp hx (HT.out.grown hV) (HE.out.grown hV) (HP.out.grown hV))
  have HTO := Lib.hid (fun (V : World) (hV : w.grownBy V none) => toCap_any V tn sp run frm unt ao cp ls se 0 (HL.out.kept hV (fun q e => by cases e)) hn1)
  have HN1 := Lib.hid hn1
  have HM := Lib.hid hM
  have tt : (t == t) = true := by simp
  clear hS hI hcz hn1 hM
  have c0 : w0.cell? ⟨A, 0, none⟩ = some (.string tn) := HA0.out.cell rfl
  have c1 : w0.cell? ⟨A, 1, none⟩ = some (.string sp) := HA0.out.cell rfl
  have c2 : w0.cell? ⟨A, 2, none⟩ = some (.int .i64 run) := HA0.out.cell rfl
  have c3 : w0.cell? ⟨A, 3, none⟩ = some (.int .i64 frm) := HA0.out.cell rfl
  have c4 : w0.cell? ⟨A, 4, none⟩ = some (.int .i64 unt) := HA0.out.cell rfl
  have c5 : w0.cell? ⟨A, 5, none⟩ = some (.slice ao ls.length cp) := HA0.out.cell rfl
  have c6 : w0.cell? ⟨A, 6, none⟩ = some (.string se) := HA0.out.cell rfl
  go_wp2_with fail
  clear c0 c1 c2 c3 c4 c5 c6
  refine (HTO.out w0 HG0.out).mono ?_
  rintro e w1 ⟨g1, rfl, -, hb1, hg1⟩
  have HG1 := Lib.hid (grown_trans HG0.out hg1)
  have HA1 := Lib.hid (HA0.out.kept hg1 (by simp))
  have HC := Lib.hid (HS.out w1 g1 ls.length hb1)
  clear hb1 hg1 HA0 HG0
  go_wp2_with fail
  refine HC.out.mono ?_
  rintro e w2 ⟨an, cn, rfl, hr2, hg2⟩
  obtain ⟨V2, hV2⟩ : ∃ x, w2.alloc (Obj.cells #[Value.string a, .string b, .int .i64 r, .int .i64 f, .int .i64 u, .slice an M.length cn, .string s] 26) = x := ⟨_, rfl⟩
  obtain ⟨D, hD⟩ : ∃ x, w2.heap.size = x := ⟨_, rfl⟩
  have HG2 := Lib.hid (show w.grownBy V2 none from by rw [← hV2]; exact grown_alloc (grown_trans HG1.out hg2) _)
  have HA2 := Lib.hid (show Blk V2 A 24 [.string tn, .string sp, .int .i64 run, .int .i64 frm, .int .i64 unt, .slice ao ls.length cp, .string se] from by rw [← hV2]; exact (HA1.out.kept hg2 (by simp)).alloc _)
  have HD2 := Lib.hid (show Blk V2 D 26 [.string a, .string b, .int .i64 r, .int .i64 f, .int .i64 u, .slice an M.length cn, .string s] from by rw [← hV2, ← hD]; exact Blk.new w2 26 _)
  have HR2 := Lib.hid (show Row V2 w1.heap.size (.slice an M.length cn) (strs M) from by rw [← hV2]; exact hr2.alloc _)
  have HOD := Lib.hid (show ∀ q, (Value.slice an M.length cn).ownBlock = some q → w1.heap.size ≤ q ∧ q < D from fun q hq => by rw [← hD]; exact hr2.lt q hq)
  have HLT := Lib.hid (show A < w1.heap.size ∧ w1.heap.size ≤ D ∧ D < V2.heap.size from ⟨HA1.out.lt, by rw [← hD]; exact hg2.size, HD2.out.lt⟩)
  have HV2E := Lib.hid hV2
  have HDE := Lib.hid hD
  clear hV2 hD hr2 hg2 HA1 HG1 HC
  have c0 : (w2.alloc (Obj.cells #[Value.string a, .string b, .int .i64 r, .int .i64 f, .int .i64 u, .slice an M.length cn, .string s] 26)).cell? ⟨A, 0, none⟩ = some (.string tn) := by rw [HV2E.out]; exact HA2.out.cell rfl
  have c1 : (w2.alloc (Obj.cells #[Value.string a, .string b, .int .i64 r, .int .i64 f, .int .i64 u, .slice an M.length cn, .string s] 26)).cell? ⟨A, 1, none⟩ = some (.string sp) := by rw [HV2E.out]; exact HA2.out.cell rfl
  have c2 : (w2.alloc (Obj.cells #[Value.string a, .string b, .int .i64 r, .int .i64 f, .int .i64 u, .slice an M.length cn, .string s] 26)).cell? ⟨A, 2, none⟩ = some (.int .i64 run) := by rw [HV2E.out]; exact HA2.out.cell rfl
  have c3 : (w2.alloc (Obj.cells #[Value.string a, .string b, .int .i64 r, .int .i64 f, .int .i64 u, .slice an M.length cn, .string s] 26)).cell? ⟨A, 3, none⟩ = some (.int .i64 frm) := by rw [HV2E.out]; exact HA2.out.cell rfl
  have c4 : (w2.alloc (Obj.cells #[Value.string a, .string b, .int .i64 r, .int .i64 f, .int .i64 u, .slice an M.length cn, .string s] 26)).cell? ⟨A, 4, none⟩ = some (.int .i64 unt) := by rw [HV2E.out]; exact HA2.out.cell rfl
  have c5 : (w2.alloc (Obj.cells #[Value.string a, .string b, .int .i64 r, .int .i64 f, .int .i64 u, .slice an M.length cn, .string s] 26)).cell? ⟨A, 5, none⟩ = some (.slice ao ls.length cp) := by rw [HV2E.out]; exact HA2.out.cell rfl
  have c6 : (w2.alloc (Obj.cells #[Value.string a, .string b, .int .i64 r, .int .i64 f, .int .i64 u, .slice an M.length cn, .string s] 26)).cell? ⟨A, 6, none⟩ = some (.string se) := by rw [HV2E.out]; exact HA2.out.cell rfl
  go_wp2_with fail
  rw [HV2E.out, HDE.out]
  clear c0 c1 c2 c3 c4 c5 c6
  refine (HTO.out V2 HG2.out).mono ?_
  rintro e w3 ⟨g2, rfl, hge, hb3, hg3⟩
  obtain ⟨V3, hV3⟩ : ∃ x, w3.alloc (Obj.cells #[Value.string tn, .string sp, .int .i64 run, .int .i64 frm, .int .i64 unt, .slice (some ⟨g2, 0, none⟩) ls.length ls.length, .string se] 26) = x := ⟨_, rfl⟩
  obtain ⟨BX, hBX⟩ : ∃ x, w3.heap.size = x := ⟨_, rfl⟩
  have g23 := grown_alloc hg3 (Obj.cells #[Value.string tn, .string sp, .int .i64 run, .int .i64 frm, .int .i64 unt, .slice (some ⟨g2, 0, none⟩) ls.length ls.length, .string se] 26)
  rw [hV3] at g23
  have HG3 := Lib.hid (grown_trans HG2.out g23)
  have HA3 := Lib.hid (HA2.out.kept g23 (by simp))
  have HD3 := Lib.hid (HD2.out.kept g23 (by simp))
  have HR3 := Lib.hid (HR2.out.kept g23 (by simp))
  have HX3 := Lib.hid (show Blk V3 g2 9 (strs ls) from by rw [← hV3]; exact hb3.alloc _)
  have HB3 := Lib.hid (show Blk V3 BX 26 [.string tn, .string sp, .int .i64 run, .int .i64 frm, .int .i64 unt, .slice (some ⟨g2, 0, none⟩) ls.length ls.length, .string se] from by rw [← hV3, ← hBX]; exact Blk.new w3 26 _)
  have HLX := Lib.hid (show V2.heap.size ≤ g2 ∧ g2 < BX ∧ BX < V3.heap.size from ⟨hge, by rw [← hBX]; exact hb3.lt, HB3.out.lt⟩)
  have HV3E := Lib.hid hV3
  have HBXE := Lib.hid hBX
  clear hV3 hBX g23 hg3 hb3 hge HA2 HD2 HR2 HG2 HV2E HDE
  go_wp2_with fail
  rw [HV3E.out, HBXE.out]
  refine (HI.out V3 g2 ls.length HX3.out HG3.out).mono ?_
  rintro e w4 ⟨an2, cn2, rfl, hr4, hg4⟩
  obtain ⟨V4, hV4⟩ : ∃ x, w4.alloc (Obj.cells #[Value.string a, .string b, .int .i64 r, .int .i64 f, .int .i64 u, .slice an2 M.length cn2, .string s] 26) = x := ⟨_, rfl⟩
  obtain ⟨E2, hE2⟩ : ∃ x, w4.heap.size = x := ⟨_, rfl⟩
  have g34 := grown_alloc hg4 (Obj.cells #[Value.string a, .string b, .int .i64 r, .int .i64 f, .int .i64 u, .slice an2 M.length cn2, .string s] 26)
  rw [hV4] at g34
  have HG4 := Lib.hid (grown_trans HG3.out g34)
  have HA4 := Lib.hid (HA3.out.kept g34 (by simp))
  have HD4 := Lib.hid (HD3.out.kept g34 (by simp))
  have HB4 := Lib.hid (HB3.out.kept g34 (by simp))
  have HX4 := Lib.hid (HX3.out.kept g34 (by simp))
  have HR4 := Lib.hid (HR3.out.kept g34 (by simp))
  have HE4 := Lib.hid (show Blk V4 E2 26 [.string a, .string b, .int .i64 r, .int .i64 f, .int .i64 u, .slice an2 M.length cn2, .string s] from by rw [← hV4, ← hE2]; exact Blk.new w4 26 _)
  have HQ4 := Lib.hid (show Row V4 V3.heap.size (.slice an2 M.length cn2) (strs M) from by rw [← hV4]; exact hr4.alloc _)
  have HOE := Lib.hid (show ∀ q, (Value.slice an2 M.length cn2).ownBlock = some q → V3.heap.size ≤ q ∧ q < E2 from fun q hq => by rw [← hE2]; exact hr4.lt q hq)
  have HLE := Lib.hid (show V3.heap.size ≤ E2 from by rw [← hE2]; exact hg4.size)
  have HV4E := Lib.hid hV4
  have HE2E := Lib.hid hE2
  clear hV4 hE2 g34 hg4 hr4 HA3 HD3 HB3 HX3 HR3 HG3 HV3E HBXE
  have c0 : (w4.alloc (Obj.cells #[Value.string a, .string b, .int .i64 r, .int .i64 f, .int .i64 u, .slice an2 M.length cn2, .string s] 26)).cell? ⟨D, 0, none⟩ = some (.string a) := by rw [HV4E.out]; exact HD4.out.cell rfl
  have c1 : (w4.alloc (Obj.cells #[Value.string a, .string b, .int .i64 r, .int .i64 f, .int .i64 u, .slice an2 M.length cn2, .string s] 26)).cell? ⟨D, 1, none⟩ = some (.string b) := by rw [HV4E.out]; exact HD4.out.cell rfl
  have c2 : (w4.alloc (Obj.cells #[Value.string a, .string b, .int .i64 r, .int .i64 f, .int .i64 u, .slice an2 M.length cn2, .string s] 26)).cell? ⟨D, 2, none⟩ = some (.int .i64 r) := by rw [HV4E.out]; exact HD4.out.cell rfl
  have c3 : (w4.alloc (Obj.cells #[Value.string a, .string b, .int .i64 r, .int .i64 f, .int .i64 u, .slice an2 M.length cn2, .string s] 26)).cell? ⟨D, 3, none⟩ = some (.int .i64 f) := by rw [HV4E.out]; exact HD4.out.cell rfl
  have c4 : (w4.alloc (Obj.cells #[Value.string a, .string b, .int .i64 r, .int .i64 f, .int .i64 u, .slice an2 M.length cn2, .string s] 26)).cell? ⟨D, 4, none⟩ = some (.int .i64 u) := by rw [HV4E.out]; exact HD4.out.cell rfl
  have c5 : (w4.alloc (Obj.cells #[Value.string a, .string b, .int .i64 r, .int .i64 f, .int .i64 u, .slice an2 M.length cn2, .string s] 26)).cell? ⟨D, 5, none⟩ = some (.slice an M.length cn) := by rw [HV4E.out]; exact HD4.out.cell rfl
  have c6 : (w4.alloc (Obj.cells #[Value.string a, .string b, .int .i64 r, .int .i64 f, .int .i64 u, .slice an2 M.length cn2, .string s] 26)).cell? ⟨D, 6, none⟩ = some (.string s) := by rw [HV4E.out]; exact HD4.out.cell rfl
  go_wp2_with fail
  rw [HV4E.out, HE2E.out]
  clear c0 c1 c2 c3 c4 c5 c6
  refine (eqCap_any V4 a b r f u an2 an cn2 cn M s _ _ HQ4.out.lies2 HR4.out.lies2 (by have := HM.out; omega)).mono ?_
  rintro e w5 ⟨rfl, hg5⟩
  obtain ⟨WS, hWS⟩ : ∃ x, x = w5 := ⟨_, rfl⟩
  rw [← hWS] at hg5
  have HGS := Lib.hid (grown_trans HG4.out hg5)
  have HAS := Lib.hid (HA4.out.kept hg5 (by simp))
  have HDS := Lib.hid (HD4.out.kept hg5 (by simp))
  have HBS := Lib.hid (HB4.out.kept hg5 (by simp))
  have HXS := Lib.hid (HX4.out.kept hg5 (by simp))
  have HRS := Lib.hid (HR4.out.kept hg5 (by simp))
  have HES := Lib.hid (HE4.out.kept hg5 (by simp))
  have HQS := Lib.hid (HQ4.out.kept hg5 (by simp))
  have HSD := Lib.hid (show w5.drew.cell? ⟨BX, 0, none⟩ = some (.string tn) ∧ w5.drew.cell? ⟨BX, 1, none⟩ = some (.string sp) ∧ w5.drew.cell? ⟨BX, 2, none⟩ = some (.int .i64 run) ∧ w5.drew.cell? ⟨BX, 3, none⟩ = some (.int .i64 frm) ∧ w5.drew.cell? ⟨BX, 4, none⟩ = some (.int .i64 unt) ∧ w5.drew.cell? ⟨BX, 5, none⟩ = some (.slice (some ⟨g2, 0, none⟩) ls.length ls.length) ∧ w5.drew.cell? ⟨BX, 6, none⟩ = some (.string se) ∧ w5.drew.cell? ⟨A, 0, none⟩ = some (.string tn) ∧ w5.drew.cell? ⟨A, 1, none⟩ = some (.string sp) ∧ w5.drew.cell? ⟨A, 2, none⟩ = some (.int .i64 run) ∧ w5.drew.cell? ⟨A, 3, none⟩ = some (.int .i64 frm) ∧ w5.drew.cell? ⟨A, 4, none⟩ = some (.int .i64 unt) ∧ w5.drew.cell? ⟨A, 5, none⟩ = some (.slice ao ls.length cp) ∧ w5.drew.cell? ⟨A, 6, none⟩ = some (.string se) ∧ WS.grownBy w5.drew none from ⟨(by rw [← hWS]; exact HBS.out.drew.cell rfl), (by rw [← hWS]; exact HBS.out.drew.cell rfl), (by rw [← hWS]; exact HBS.out.drew.cell rfl), (by rw [← hWS]; exact HBS.out.drew.cell rfl), (by rw [← hWS]; exact HBS.out.drew.cell rfl), (by rw [← hWS]; exact HBS.out.drew.cell rfl), (by rw [← hWS]; exact HBS.out.drew.cell rfl), (by rw [← hWS]; exact HAS.out.drew.cell rfl), (by rw [← hWS]; exact HAS.out.drew.cell rfl), (by rw [← hWS]; exact HAS.out.drew.cell rfl), (by rw [← hWS]; exact HAS.out.drew.cell rfl), (by rw [← hWS]; exact HAS.out.drew.cell rfl), (by rw [← hWS]; exact HAS.out.drew.cell rfl), (by rw [← hWS]; exact HAS.out.drew.cell rfl), by rw [← hWS]; exact grown_drew (grown_refl _ _)⟩)
  clear hWS hg5 HA4 HD4 HB4 HX4 HR4 HE4 HQ4 HG4 HV4E HE2E
  have HTR := Lib.hid (fun (V : World) (h : V.cell? ⟨BX, 0, none⟩ = some (.string tn) ∧ V.cell? ⟨BX, 1, none⟩ = some (.string sp) ∧ V.cell? ⟨BX, 2, none⟩ = some (.int .i64 run) ∧ V.cell? ⟨BX, 3, none⟩ = some (.int .i64 frm) ∧ V.cell? ⟨BX, 4, none⟩ = some (.int .i64 unt) ∧ V.cell? ⟨BX, 5, none⟩ = some (.slice (some ⟨g2, 0, none⟩) ls.length ls.length) ∧ V.cell? ⟨BX, 6, none⟩ = some (.string se) ∧ V.cell? ⟨A, 0, none⟩ = some (.string tn) ∧ V.cell? ⟨A, 1, none⟩ = some (.string sp) ∧ V.cell? ⟨A, 2, none⟩ = some (.int .i64 run) ∧ V.cell? ⟨A, 3, none⟩ = some (.int .i64 frm) ∧ V.cell? ⟨A, 4, none⟩ = some (.int .i64 unt) ∧ V.cell? ⟨A, 5, none⟩ = some (.slice ao ls.length cp) ∧ V.cell? ⟨A, 6, none⟩ = some (.string se) ∧ WS.grownBy V none) => (HTO.out V (grown_trans HGS.out h.2.2.2.2.2.2.2.2.2.2.2.2.2.2)).mono (R' := fun e w' => ∃ y : Nat, e = .returned (.agg #[.string tn, .string sp, .int .i64 run, .int .i64 frm, .int .i64 unt, .slice (some ⟨y, 0, none⟩) ls.length ls.length, .string se]) ∧ (w'.cell? ⟨BX, 0, none⟩ = some (.string tn) ∧ w'.cell? ⟨BX, 1, none⟩ = some (.string sp) ∧ w'.cell? ⟨BX, 2, none⟩ = some (.int .i64 run) ∧ w'.cell? ⟨BX, 3, none⟩ = some (.int .i64 frm) ∧ w'.cell? ⟨BX, 4, none⟩ = some (.int .i64 unt) ∧ w'.cell? ⟨BX, 5, none⟩ = some (.slice (some ⟨g2, 0, none⟩) ls.length ls.length) ∧ w'.cell? ⟨BX, 6, none⟩ = some (.string se) ∧ w'.cell? ⟨A, 0, none⟩ = some (.string tn) ∧ w'.cell? ⟨A, 1, none⟩ = some (.string sp) ∧ w'.cell? ⟨A, 2, none⟩ = some (.int .i64 run) ∧ w'.cell? ⟨A, 3, none⟩ = some (.int .i64 frm) ∧ w'.cell? ⟨A, 4, none⟩ = some (.int .i64 unt) ∧ w'.cell? ⟨A, 5, none⟩ = some (.slice ao ls.length cp) ∧ w'.cell? ⟨A, 6, none⟩ = some (.string se) ∧ WS.grownBy w' none) ∧ Blk w' y 9 (strs ls)) (fun e w' ⟨y, q1, _, q3, q4⟩ => ⟨y, q1, ⟨q4.cell h.1 (by simp), q4.cell h.2.1 (by simp), q4.cell h.2.2.1 (by simp), q4.cell h.2.2.2.1 (by simp), q4.cell h.2.2.2.2.1 (by simp), q4.cell h.2.2.2.2.2.1 (by simp), q4.cell h.2.2.2.2.2.2.1 (by simp), q4.cell h.2.2.2.2.2.2.2.1 (by simp), q4.cell h.2.2.2.2.2.2.2.2.1 (by simp), q4.cell h.2.2.2.2.2.2.2.2.2.1 (by simp), q4.cell h.2.2.2.2.2.2.2.2.2.2.1 (by simp), q4.cell h.2.2.2.2.2.2.2.2.2.2.2.1 (by simp), q4.cell h.2.2.2.2.2.2.2.2.2.2.2.2.1 (by simp), q4.cell h.2.2.2.2.2.2.2.2.2.2.2.2.2.1 (by simp), grown_trans h.2.2.2.2.2.2.2.2.2.2.2.2.2.2 q4⟩, q3⟩))
  have HKP := Lib.hid (fun (V V' : World) (h : V.cell? ⟨BX, 0, none⟩ = some (.string tn) ∧ V.cell? ⟨BX, 1, none⟩ = some (.string sp) ∧ V.cell? ⟨BX, 2, none⟩ = some (.int .i64 run) ∧ V.cell? ⟨BX, 3, none⟩ = some (.int .i64 frm) ∧ V.cell? ⟨BX, 4, none⟩ = some (.int .i64 unt) ∧ V.cell? ⟨BX, 5, none⟩ = some (.slice (some ⟨g2, 0, none⟩) ls.length ls.length) ∧ V.cell? ⟨BX, 6, none⟩ = some (.string se) ∧ V.cell? ⟨A, 0, none⟩ = some (.string tn) ∧ V.cell? ⟨A, 1, none⟩ = some (.string sp) ∧ V.cell? ⟨A, 2, none⟩ = some (.int .i64 run) ∧ V.cell? ⟨A, 3, none⟩ = some (.int .i64 frm) ∧ V.cell? ⟨A, 4, none⟩ = some (.int .i64 unt) ∧ V.cell? ⟨A, 5, none⟩ = some (.slice ao ls.length cp) ∧ V.cell? ⟨A, 6, none⟩ = some (.string se) ∧ WS.grownBy V none) (hg : V.grownBy V' none) => show V'.cell? ⟨BX, 0, none⟩ = some (.string tn) ∧ V'.cell? ⟨BX, 1, none⟩ = some (.string sp) ∧ V'.cell? ⟨BX, 2, none⟩ = some (.int .i64 run) ∧ V'.cell? ⟨BX, 3, none⟩ = some (.int .i64 frm) ∧ V'.cell? ⟨BX, 4, none⟩ = some (.int .i64 unt) ∧ V'.cell? ⟨BX, 5, none⟩ = some (.slice (some ⟨g2, 0, none⟩) ls.length ls.length) ∧ V'.cell? ⟨BX, 6, none⟩ = some (.string se) ∧ V'.cell? ⟨A, 0, none⟩ = some (.string tn) ∧ V'.cell? ⟨A, 1, none⟩ = some (.string sp) ∧ V'.cell? ⟨A, 2, none⟩ = some (.int .i64 run) ∧ V'.cell? ⟨A, 3, none⟩ = some (.int .i64 frm) ∧ V'.cell? ⟨A, 4, none⟩ = some (.int .i64 unt) ∧ V'.cell? ⟨A, 5, none⟩ = some (.slice ao ls.length cp) ∧ V'.cell? ⟨A, 6, none⟩ = some (.string se) ∧ WS.grownBy V' none from ⟨hg.cell h.1 (by simp), hg.cell h.2.1 (by simp), hg.cell h.2.2.1 (by simp), hg.cell h.2.2.2.1 (by simp), hg.cell h.2.2.2.2.1 (by simp), hg.cell h.2.2.2.2.2.1 (by simp), hg.cell h.2.2.2.2.2.2.1 (by simp), hg.cell h.2.2.2.2.2.2.2.1 (by simp), hg.cell h.2.2.2.2.2.2.2.2.1 (by simp), hg.cell h.2.2.2.2.2.2.2.2.2.1 (by simp), hg.cell h.2.2.2.2.2.2.2.2.2.2.1 (by simp), hg.cell h.2.2.2.2.2.2.2.2.2.2.2.1 (by simp), hg.cell h.2.2.2.2.2.2.2.2.2.2.2.2.1 (by simp), hg.cell h.2.2.2.2.2.2.2.2.2.2.2.2.2.1 (by simp), grown_trans h.2.2.2.2.2.2.2.2.2.2.2.2.2.2 hg⟩)
  have HER2 := Lib.hid (fun (V : World) (y : Nat) (h : V.cell? ⟨BX, 0, none⟩ = some (.string tn) ∧ V.cell? ⟨BX, 1, none⟩ = some (.string sp) ∧ V.cell? ⟨BX, 2, none⟩ = some (.int .i64 run) ∧ V.cell? ⟨BX, 3, none⟩ = some (.int .i64 frm) ∧ V.cell? ⟨BX, 4, none⟩ = some (.int .i64 unt) ∧ V.cell? ⟨BX, 5, none⟩ = some (.slice (some ⟨g2, 0, none⟩) ls.length ls.length) ∧ V.cell? ⟨BX, 6, none⟩ = some (.string se) ∧ V.cell? ⟨A, 0, none⟩ = some (.string tn) ∧ V.cell? ⟨A, 1, none⟩ = some (.string sp) ∧ V.cell? ⟨A, 2, none⟩ = some (.int .i64 run) ∧ V.cell? ⟨A, 3, none⟩ = some (.int .i64 frm) ∧ V.cell? ⟨A, 4, none⟩ = some (.int .i64 unt) ∧ V.cell? ⟨A, 5, none⟩ = some (.slice ao ls.length cp) ∧ V.cell? ⟨A, 6, none⟩ = some (.string se) ∧ WS.grownBy V none) (hy : Blk V y 9 (strs ls)) => (eqCap_any V tn sp run frm unt (some ⟨g2, 0, none⟩) (some ⟨y, 0, none⟩) ls.length ls.length ls se g2 y (HXS.out.kept h.2.2.2.2.2.2.2.2.2.2.2.2.2.2 (by simp)).lies hy.lies HN1.out).mono (R' := fun e w' => e = .returned (.bool true) ∧ (w'.cell? ⟨BX, 0, none⟩ = some (.string tn) ∧ w'.cell? ⟨BX, 1, none⟩ = some (.string sp) ∧ w'.cell? ⟨BX, 2, none⟩ = some (.int .i64 run) ∧ w'.cell? ⟨BX, 3, none⟩ = some (.int .i64 frm) ∧ w'.cell? ⟨BX, 4, none⟩ = some (.int .i64 unt) ∧ w'.cell? ⟨BX, 5, none⟩ = some (.slice (some ⟨g2, 0, none⟩) ls.length ls.length) ∧ w'.cell? ⟨BX, 6, none⟩ = some (.string se) ∧ w'.cell? ⟨A, 0, none⟩ = some (.string tn) ∧ w'.cell? ⟨A, 1, none⟩ = some (.string sp) ∧ w'.cell? ⟨A, 2, none⟩ = some (.int .i64 run) ∧ w'.cell? ⟨A, 3, none⟩ = some (.int .i64 frm) ∧ w'.cell? ⟨A, 4, none⟩ = some (.int .i64 unt) ∧ w'.cell? ⟨A, 5, none⟩ = some (.slice ao ls.length cp) ∧ w'.cell? ⟨A, 6, none⟩ = some (.string se) ∧ WS.grownBy w' none)) (fun e w' q => ⟨q.1, HKP.out V w' h q.2⟩))
  go_wp2
  go_region_held3 (fun V => V.cell? ⟨BX, 0, none⟩ = some (.string tn) ∧ V.cell? ⟨BX, 1, none⟩ = some (.string sp) ∧ V.cell? ⟨BX, 2, none⟩ = some (.int .i64 run) ∧ V.cell? ⟨BX, 3, none⟩ = some (.int .i64 frm) ∧ V.cell? ⟨BX, 4, none⟩ = some (.int .i64 unt) ∧ V.cell? ⟨BX, 5, none⟩ = some (.slice (some ⟨g2, 0, none⟩) ls.length ls.length) ∧ V.cell? ⟨BX, 6, none⟩ = some (.string se) ∧ V.cell? ⟨A, 0, none⟩ = some (.string tn) ∧ V.cell? ⟨A, 1, none⟩ = some (.string sp) ∧ V.cell? ⟨A, 2, none⟩ = some (.int .i64 run) ∧ V.cell? ⟨A, 3, none⟩ = some (.int .i64 frm) ∧ V.cell? ⟨A, 4, none⟩ = some (.int .i64 unt) ∧ V.cell? ⟨A, 5, none⟩ = some (.slice ao ls.length cp) ∧ V.cell? ⟨A, 6, none⟩ = some (.string se) ∧ WS.grownBy V none) (first | assumption | (with_reducible exact HSD.out))
    (first
      | (go_at_call 9; refine (HTR.out _ (by assumption)).mono ?_; rintro e wa ⟨y, rfl, hSa, hy⟩; have HY := Lib.hid hy; clear hy)
      | (go_at_call 11; refine (HER2.out _ y (by assumption) HY.out).mono ?_; rintro e wb ⟨rfl, hSb⟩; have HSB := Lib.hid hSb.2.2.2.2.2.2.2.2.2.2.2.2.2.2))
  all_goals
    try clear HTR HER2 HKP HSD
    have HGb := Lib.hid (grown_trans HGS.out HSB.out)
    have HAb := Lib.hid (HAS.out.kept HSB.out (by simp))
    have HDb := Lib.hid (HDS.out.kept HSB.out (by simp))
    have HBb := Lib.hid (HBS.out.kept HSB.out (by simp))
    have HXb := Lib.hid (HXS.out.kept HSB.out (by simp))
    have HRb := Lib.hid (HRS.out.kept HSB.out (by simp))
    have HEb := Lib.hid (HES.out.kept HSB.out (by simp))
    have HQb := Lib.hid (HQS.out.kept HSB.out (by simp))
    clear HAS HDS HBS HXS HRS HES HQS HGS HSB
    have d0 : wb.cell? ⟨BX, 0, none⟩ = some (.string tn) := HBb.out.cell rfl
    have d1 : wb.cell? ⟨BX, 1, none⟩ = some (.string sp) := HBb.out.cell rfl
    have d2 : wb.cell? ⟨BX, 2, none⟩ = some (.int .i64 run) := HBb.out.cell rfl
    have d3 : wb.cell? ⟨BX, 3, none⟩ = some (.int .i64 frm) := HBb.out.cell rfl
    have d4 : wb.cell? ⟨BX, 4, none⟩ = some (.int .i64 unt) := HBb.out.cell rfl
    have d5 : wb.cell? ⟨BX, 5, none⟩ = some (.slice (some ⟨g2, 0, none⟩) ls.length ls.length) := HBb.out.cell rfl
    have d6 : wb.cell? ⟨BX, 6, none⟩ = some (.string se) := HBb.out.cell rfl
    go_wp2_with fail
    clear d0 d1 d2 d3 d4 d5 d6
    refine (markCap_any wb g2 tn sp run frm unt (some ⟨g2, 0, none⟩) ls.length ls se (HXb.out.row g2 (Nat.le_refl _)) HN1.out 1 (by omega) (by omega)).mono ?_
    rintro e w7 ⟨rfl, -, hg7⟩
    have hg7 : wb.grownBy w7 (some g2) := hg7
    have HG7 := Lib.hid (grown_into HGb.out hg7 (by have h1 := HLX.out; have h2 := HLT.out; have h3 := HAW.out; omega))
    have HA7 := Lib.hid (HAb.out.kept hg7 (by have h1 := HLX.out; have h2 := HLT.out; simp; omega))
    have HD7 := Lib.hid (HDb.out.kept hg7 (by have h1 := HLX.out; have h2 := HLT.out; simp; omega))
    have HE7 := Lib.hid (HEb.out.kept hg7 (by have h1 := HLX.out; have h2 := HLE.out; simp; omega))
    have HR7 := Lib.hid (HRb.out.kept hg7 (fun k hk e => by have h0 := HOD.out k hk; have h1 := HLX.out; have h2 := HLT.out; have h3 := Option.some.inj e; omega))
    have HQ7 := Lib.hid (HQb.out.kept hg7 (fun k hk e => by have h0 := HOE.out k hk; have h1 := HLX.out; have h3 := Option.some.inj e; omega))
    clear hg7 HAb HDb HBb HXb HRb HEb HQb HGb
    have hk1 : ¬ ((1 + ls.length : Nat) : Int) < 0 := by omega
    have hk2 : decide (((1 + ls.length : Nat) : Int) < 0) = false := decide_eq_false hk1
    have c0 : w7.cell? ⟨D, 0, none⟩ = some (.string a) := HD7.out.cell rfl
    have c1 : w7.cell? ⟨D, 1, none⟩ = some (.string b) := HD7.out.cell rfl
    have c2 : w7.cell? ⟨D, 2, none⟩ = some (.int .i64 r) := HD7.out.cell rfl
    have c3 : w7.cell? ⟨D, 3, none⟩ = some (.int .i64 f) := HD7.out.cell rfl
    have c4 : w7.cell? ⟨D, 4, none⟩ = some (.int .i64 u) := HD7.out.cell rfl
    have c5 : w7.cell? ⟨D, 5, none⟩ = some (.slice an M.length cn) := HD7.out.cell rfl
    have c6 : w7.cell? ⟨D, 6, none⟩ = some (.string s) := HD7.out.cell rfl
    have d0 : w7.cell? ⟨E2, 0, none⟩ = some (.string a) := HE7.out.cell rfl
    have d1 : w7.cell? ⟨E2, 1, none⟩ = some (.string b) := HE7.out.cell rfl
    have d2 : w7.cell? ⟨E2, 2, none⟩ = some (.int .i64 r) := HE7.out.cell rfl
    have d3 : w7.cell? ⟨E2, 3, none⟩ = some (.int .i64 f) := HE7.out.cell rfl
    have d4 : w7.cell? ⟨E2, 4, none⟩ = some (.int .i64 u) := HE7.out.cell rfl
    have d5 : w7.cell? ⟨E2, 5, none⟩ = some (.slice an2 M.length cn2) := HE7.out.cell rfl
    have d6 : w7.cell? ⟨E2, 6, none⟩ = some (.string s) := HE7.out.cell rfl
    go_wp2_with fail
    clear c0 c1 c2 c3 c4 c5 c6 d0 d1 d2 d3 d4 d5 d6
    refine (eqCap_any w7 a b r f u an2 an cn2 cn M s _ _ HQ7.out.lies2 HR7.out.lies2 (by have := HM.out; omega)).mono ?_
    rintro e w8 ⟨rfl, hg8⟩
    have HG8 := Lib.hid (grown_trans HG7.out hg8)
    have HA8 := Lib.hid (HA7.out.kept hg8 (by simp))
    have HD8 := Lib.hid (HD7.out.kept hg8 (by simp))
    have HE8 := Lib.hid (HE7.out.kept hg8 (by simp))
    have HR8 := Lib.hid (HR7.out.kept hg8 (by simp))
    have HQ8 := Lib.hid (HQ7.out.kept hg8 (by simp))
    clear hg8 HA7 HD7 HE7 HR7 HQ7 HG7 hk1 hk2
    have d0 : w8.cell? ⟨E2, 0, none⟩ = some (.string a) := HE8.out.cell rfl
    have d1 : w8.cell? ⟨E2, 1, none⟩ = some (.string b) := HE8.out.cell rfl
    have d2 : w8.cell? ⟨E2, 2, none⟩ = some (.int .i64 r) := HE8.out.cell rfl
    have d3 : w8.cell? ⟨E2, 3, none⟩ = some (.int .i64 f) := HE8.out.cell rfl
    have d4 : w8.cell? ⟨E2, 4, none⟩ = some (.int .i64 u) := HE8.out.cell rfl
    have d5 : w8.cell? ⟨E2, 5, none⟩ = some (.slice an2 M.length cn2) := HE8.out.cell rfl
    have d6 : w8.cell? ⟨E2, 6, none⟩ = some (.string s) := HE8.out.cell rfl
    go_wp2_with fail
    clear d0 d1 d2 d3 d4 d5 d6
    refine (markCap_any w8 V3.heap.size a b r f u an2 cn2 M s HQ8.out (by have := HM.out; omega) 1 (by omega) (by omega)).mono ?_
    rintro e w9 ⟨rfl, hr9, hg9⟩
    have HQ9 := Lib.hid hr9
    have HG9 := Lib.hid (grown_own HG8.out hg9 (fun q hq => by have h0 := HOE.out q hq; have h1 := HLX.out; have h2 := HLT.out; have h3 := HAW.out; omega))
    have HA9 := Lib.hid (HA8.out.kept hg9 (fun e => by have h0 := HOE.out A e.symm; have h1 := HLX.out; have h2 := HLT.out; omega))
    have HD9 := Lib.hid (HD8.out.kept hg9 (fun e => by have h0 := HOE.out D e.symm; have h1 := HLX.out; have h2 := HLT.out; omega))
    have HE9 := Lib.hid (HE8.out.kept hg9 (fun e => by have h0 := HOE.out E2 e.symm; omega))
    have HR9 := Lib.hid (HR8.out.kept hg9 (fun k hk e => by have h0 := HOE.out k e.symm; have h1 := HLX.out; have h2 := HLT.out; have h3 := HOD.out k hk; omega))
    clear hr9 hg9 HA8 HD8 HE8 HR8 HQ8 HG8
    have d0 : w9.cell? ⟨E2, 0, none⟩ = some (.string a) := HE9.out.cell rfl
    have d1 : w9.cell? ⟨E2, 1, none⟩ = some (.string b) := HE9.out.cell rfl
    have d2 : w9.cell? ⟨E2, 2, none⟩ = some (.int .i64 r) := HE9.out.cell rfl
    have d3 : w9.cell? ⟨E2, 3, none⟩ = some (.int .i64 f) := HE9.out.cell rfl
    have d4 : w9.cell? ⟨E2, 4, none⟩ = some (.int .i64 u) := HE9.out.cell rfl
    have d5 : w9.cell? ⟨E2, 5, none⟩ = some (.slice an2 M.length cn2) := HE9.out.cell rfl
    have d6 : w9.cell? ⟨E2, 6, none⟩ = some (.string s) := HE9.out.cell rfl
    go_wp2_with fail
    clear d0 d1 d2 d3 d4 d5 d6
    refine (heldCap_any w9 V3.heap.size a b r f u an2 cn2 M.length s 1 HQ9.out (by have := HM.out; omega) (by omega) (by omega)).mono ?_
    rintro e w10 ⟨rfl, hg10⟩
    have HG10 := Lib.hid (grown_trans HG9.out hg10)
    have HA10 := Lib.hid (HA9.out.kept hg10 (by simp))
    have HD10 := Lib.hid (HD9.out.kept hg10 (by simp))
    have HE10 := Lib.hid (HE9.out.kept hg10 (by simp))
    have HR10 := Lib.hid (HR9.out.kept hg10 (by simp))
    have HQ10 := Lib.hid (HQ9.out.kept hg10 (by simp))
    clear hg10 HA9 HD9 HE9 HR9 HQ9 HG9
    have hm1 : ¬ ((1 + M.length : Nat) : Int) < 0 := by omega
    have hm2 : decide (((1 + M.length : Nat) : Int) < 0) = false := decide_eq_false hm1
    have c0 : w10.cell? ⟨A, 0, none⟩ = some (.string tn) := HA10.out.cell rfl
    have c1 : w10.cell? ⟨A, 1, none⟩ = some (.string sp) := HA10.out.cell rfl
    have c2 : w10.cell? ⟨A, 2, none⟩ = some (.int .i64 run) := HA10.out.cell rfl
    have c3 : w10.cell? ⟨A, 3, none⟩ = some (.int .i64 frm) := HA10.out.cell rfl
    have c4 : w10.cell? ⟨A, 4, none⟩ = some (.int .i64 unt) := HA10.out.cell rfl
    have c5 : w10.cell? ⟨A, 5, none⟩ = some (.slice ao ls.length cp) := HA10.out.cell rfl
    have c6 : w10.cell? ⟨A, 6, none⟩ = some (.string se) := HA10.out.cell rfl
    go_wp2_with fail
    clear c0 c1 c2 c3 c4 c5 c6
    refine (HTO.out w10 HG10.out).mono ?_
    rintro e w11 ⟨g3, rfl, -, hb11, hg11⟩
    have HG11 := Lib.hid (grown_trans HG10.out hg11)
    have HC := Lib.hid (HI.out w11 g3 ls.length hb11 HG11.out)
    clear hb11
    go_wp2_with fail
    refine HC.out.mono ?_
    rintro e w12 ⟨an3, cn3, rfl, hr12, hg12⟩
    obtain ⟨V6, hV6⟩ : ∃ x, w12.alloc (Obj.cells #[Value.string a, .string b, .int .i64 r, .int .i64 f, .int .i64 u, .slice an3 M.length cn3, .string s] 26) = x := ⟨_, rfl⟩
    obtain ⟨E6, hE6⟩ : ∃ x, w12.heap.size = x := ⟨_, rfl⟩
    have g126 := grown_trans hg11 (grown_alloc hg12 (Obj.cells #[Value.string a, .string b, .int .i64 r, .int .i64 f, .int .i64 u, .slice an3 M.length cn3, .string s] 26))
    rw [hV6] at g126
    have HG6 := Lib.hid (grown_trans HG10.out g126)
    have HD6 := Lib.hid (HD10.out.kept g126 (by simp))
    have HE6B := Lib.hid (HE10.out.kept g126 (by simp))
    have HR6 := Lib.hid (HR10.out.kept g126 (by simp))
    have HQ6 := Lib.hid (HQ10.out.kept g126 (by simp))
    have HS6 := Lib.hid (show Row V6 w11.heap.size (.slice an3 M.length cn3) (strs M) from by rw [← hV6]; exact hr12.alloc _)
    have HV6E := Lib.hid hV6
    have HE6E := Lib.hid hE6
    clear hV6 hE6 g126 hg11 hg12 hr12 HC HG11 HA10 HD10 HE10 HR10 HQ10 HG10
    have c0 : (w12.alloc (Obj.cells #[Value.string a, .string b, .int .i64 r, .int .i64 f, .int .i64 u, .slice an3 M.length cn3, .string s] 26)).cell? ⟨D, 0, none⟩ = some (.string a) := by rw [HV6E.out]; exact HD6.out.cell rfl
    have c1 : (w12.alloc (Obj.cells #[Value.string a, .string b, .int .i64 r, .int .i64 f, .int .i64 u, .slice an3 M.length cn3, .string s] 26)).cell? ⟨D, 1, none⟩ = some (.string b) := by rw [HV6E.out]; exact HD6.out.cell rfl
    have c2 : (w12.alloc (Obj.cells #[Value.string a, .string b, .int .i64 r, .int .i64 f, .int .i64 u, .slice an3 M.length cn3, .string s] 26)).cell? ⟨D, 2, none⟩ = some (.int .i64 r) := by rw [HV6E.out]; exact HD6.out.cell rfl
    have c3 : (w12.alloc (Obj.cells #[Value.string a, .string b, .int .i64 r, .int .i64 f, .int .i64 u, .slice an3 M.length cn3, .string s] 26)).cell? ⟨D, 3, none⟩ = some (.int .i64 f) := by rw [HV6E.out]; exact HD6.out.cell rfl
    have c4 : (w12.alloc (Obj.cells #[Value.string a, .string b, .int .i64 r, .int .i64 f, .int .i64 u, .slice an3 M.length cn3, .string s] 26)).cell? ⟨D, 4, none⟩ = some (.int .i64 u) := by rw [HV6E.out]; exact HD6.out.cell rfl
    have c5 : (w12.alloc (Obj.cells #[Value.string a, .string b, .int .i64 r, .int .i64 f, .int .i64 u, .slice an3 M.length cn3, .string s] 26)).cell? ⟨D, 5, none⟩ = some (.slice an M.length cn) := by rw [HV6E.out]; exact HD6.out.cell rfl
    have c6 : (w12.alloc (Obj.cells #[Value.string a, .string b, .int .i64 r, .int .i64 f, .int .i64 u, .slice an3 M.length cn3, .string s] 26)).cell? ⟨D, 6, none⟩ = some (.string s) := by rw [HV6E.out]; exact HD6.out.cell rfl
    go_wp2_with fail
    rw [HV6E.out, HE6E.out]
    clear c0 c1 c2 c3 c4 c5 c6
    refine (eqCap_any V6 a b r f u an3 an cn3 cn M s _ _ HS6.out.lies2 HR6.out.lies2 (by have := HM.out; omega)).mono ?_
    rintro e w13 ⟨rfl, hg13⟩
    have HG13 := Lib.hid (grown_trans HG6.out hg13)
    have HE13 := Lib.hid (HE6B.out.kept hg13 (by simp))
    have HQ13 := Lib.hid (HQ6.out.kept hg13 (by simp))
    clear hg13 HD6 HE6B HR6 HQ6 HS6 HG6 HV6E HE6E
    have d0 : w13.cell? ⟨E2, 0, none⟩ = some (.string a) := HE13.out.cell rfl
    have d1 : w13.cell? ⟨E2, 1, none⟩ = some (.string b) := HE13.out.cell rfl
    have d2 : w13.cell? ⟨E2, 2, none⟩ = some (.int .i64 r) := HE13.out.cell rfl
    have d3 : w13.cell? ⟨E2, 3, none⟩ = some (.int .i64 f) := HE13.out.cell rfl
    have d4 : w13.cell? ⟨E2, 4, none⟩ = some (.int .i64 u) := HE13.out.cell rfl
    have d5 : w13.cell? ⟨E2, 5, none⟩ = some (.slice an2 M.length cn2) := HE13.out.cell rfl
    have d6 : w13.cell? ⟨E2, 6, none⟩ = some (.string s) := HE13.out.cell rfl
    go_wp2_with fail
    clear d0 d1 d2 d3 d4 d5 d6
    refine (heldCap_any w13 V3.heap.size a b r f u an2 cn2 M.length s 1 HQ13.out (by have := HM.out; omega) (by omega) (by omega)).mono ?_
    rintro e w14 ⟨rfl, hg14⟩
    have HG14 := Lib.hid (grown_trans HG13.out hg14)
    clear hg14
    go_wp2
    go_ret
    exact ⟨rfl, HG14.out⟩
end Go.Proofs.YtecekbhkombnnaaGreatDoor
