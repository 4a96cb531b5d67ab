/- A tape at which power fails, by the program: a piece is torn. -/
import Derived.Test.YtpmjinlbfddmmaaP5
namespace Go.Proofs.Ytpmjinlbfddmmaa
open Go.RowKit

set_option maxRecDepth 100000 in
set_option maxHeartbeats 2000000 in
theorem icrash_B (w : World) (gs cs gl cl : Nat) (ss ls : List ByteArray) (hs : At w ⟨gs, 0, none⟩ ss) (hl : At w ⟨gl, 0, none⟩ ls) (n1 : ss.length ≤ 1048576) (n2 : ls.length ≤ 1048576) (hcl : ls.length ≤ cl) (whole torn : Int) (m : Nat) (hmx : min (max whole 0) (ls.length : Int) = (m : Int)) (T : List ByteArray) (hT : T = ls.take m) (hq : (m : Int) < ls.length) (hq2 : 0 < torn) (x : ByteArray) (hx : ls.getD m ByteArray.empty = x) (n : Nat) (hn : n ≤ x.size) (hmn : min torn (x.size : Int) = (n : Int)) (hz : ∀ s ∈ ss ++ T ++ [x.extract 0 n], s.size ≤ 1048576) :
    Calls Try.prog 17 #[.agg #[.slice (some ⟨gs, 0, none⟩) ss.length cs, .slice (some ⟨gl, 0, none⟩) ls.length cl], .int .i64 whole, .int .i64 torn] w fun e w' => ∃ v, e = .returned (.agg #[v, .slice none 0 0]) ∧ Row w' w.heap.size v (strs (ss ++ T ++ [x.extract 0 n])) ∧ w.grownBy w' none := by
  have HG := Lib.hid (show w.grownBy ((w.alloc (Obj.cells #[Value.slice (some ⟨gs, 0, none⟩) ss.length cs, .slice (some ⟨gl, 0, none⟩) ls.length cl] 26)).alloc (Obj.cells #[Value.slice none 0 0, .slice none 0 0] 26)) none from grown_alloc (grown_alloc (grown_refl _ _) _) _)
  have HBX := Lib.hid (show Blk ((w.alloc (Obj.cells #[Value.slice (some ⟨gs, 0, none⟩) ss.length cs, .slice (some ⟨gl, 0, none⟩) ls.length cl] 26)).alloc (Obj.cells #[Value.slice none 0 0, .slice none 0 0] 26)) w.heap.size 26 [Value.slice (some ⟨gs, 0, none⟩) ss.length cs, .slice (some ⟨gl, 0, none⟩) ls.length cl] from (Blk.new w 26 _).alloc _)
  have HBR := Lib.hid (show Blk ((w.alloc (Obj.cells #[Value.slice (some ⟨gs, 0, none⟩) ss.length cs, .slice (some ⟨gl, 0, none⟩) ls.length cl] 26)).alloc (Obj.cells #[Value.slice none 0 0, .slice none 0 0] 26)) (w.heap.size + 1) 26 [Value.slice none 0 0, .slice none 0 0] from by
    have := Blk.new (w.alloc (Obj.cells #[Value.slice (some ⟨gs, 0, none⟩) ss.length cs, .slice (some ⟨gl, 0, none⟩) ls.length cl] 26)) 26 [Value.slice none 0 0, .slice none 0 0]
    simpa using this)
  have HS := Lib.hid hs
  have HL := Lib.hid hl
  have HZ := Lib.hid hz
  have hTl : T.length = m := by rw [hT]; simp; omega
  have HLT := Lib.hid (show At w ⟨gl, 0, none⟩ T from fun j u hu => HL.out j u (by
    rw [hT] at hu
    simp only [strs, List.map_take] at hu ⊢
    rw [List.getElem?_take] at hu
    split at hu
    · exact hu
    · cases hu))
  have hmI : (m : Int) ≤ ls.length := by omega
  have hmc : (m : Int) ≤ cl := by omega
  have HXA := Lib.hid (show w.cell? ⟨gl, m, none⟩ = some (.string x) from by
    have := HL.out m (.string x) (by rw [← hx]; simp [strs, show m < ls.length from by omega])
    rw [Addr.add_mid, Nat.zero_add] at this
    exact this)
  obtain ⟨i9, hi9, hz0, hz1, hz2⟩ := info_parts info9g
  clear hT hx
  clear hs hl hz
  go_enter Try.func17, Try.ntmps17
  go_wp2
  generalize ((w.alloc (Obj.cells #[Value.slice (some ⟨gs, 0, none⟩) ss.length cs, .slice (some ⟨gl, 0, none⟩) ls.length cl] 26)).alloc (Obj.cells #[Value.slice none 0 0, .slice none 0 0] 26)) = W at HG HBX HBR ⊢
  refine wp_still_tail 6 (by kernel_rfl) (by kernel_rfl) (fun wx => w.grownBy wx none ∧ Blk wx w.heap.size 26 [Value.slice (some ⟨gs, 0, none⟩) ss.length cs, .slice (some ⟨gl, 0, none⟩) ls.length cl] ∧ Blk wx (w.heap.size + 1) 26 [Value.slice none 0 0, .slice none 0 0]) ⟨grown_drew HG.out, HBX.out.drew, HBR.out.drew⟩ ?_
  rintro wx ⟨hgx, hbx, hbr⟩
  have HGX := Lib.hid hgx
  have HX := Lib.hid hbx
  have HR := Lib.hid hbr
  have d0 : wx.cell? ⟨w.heap.size, 0, none⟩ = some (.slice (some ⟨gs, 0, none⟩) ss.length cs) := hbx.cell rfl
  have d1 : wx.cell? ⟨w.heap.size, 1, none⟩ = some (.slice (some ⟨gl, 0, none⟩) ls.length cl) := hbx.cell rfl
  have HGB := Lib.hid (show wx.grownBy (wx.alloc (Obj.cells #[Value.slice (some ⟨gs, 0, none⟩) ss.length cs, .slice (some ⟨gl, 0, none⟩) m cl] 22)) none from grown_alloc (grown_refl _ _) _)
  have HBB := Lib.hid (Blk.new wx 22 [Value.slice (some ⟨gs, 0, none⟩) ss.length cs, .slice (some ⟨gl, 0, none⟩) m cl])
  have HCC := Lib.hid (concat_any (wx.alloc (Obj.cells #[Value.slice (some ⟨gs, 0, none⟩) ss.length cs, .slice (some ⟨gl, 0, none⟩) m cl] 22)) wx.heap.size gs 0 cs gl 0 cl ss T ((HS.out.kept HGX.out (by simp)).kept HGB.out (by simp)) ((HLT.out.kept HGX.out (by simp)).kept HGB.out (by simp)) n1 (by omega) (HBB.out.cell rfl) (by rw [hTl]; exact HBB.out.cell rfl))
  clear hgx hbx hbr HG HBX HBR
  simp only [List.take_succ_cons, List.take_zero, List.drop_succ_cons, List.drop_zero]
  repeat still_step
  refine wpStill_nil ?_
  clear d0 d1
  go_wp2_with fail
  refine HCC.out.mono ?_
  rintro e w1 ⟨v1, rfl, hr1, hg1⟩
  have hgw1 := grown_trans HGB.out hg1
  have HG1 := Lib.hid (grown_trans HGX.out hgw1)
  have HX1 := Lib.hid (HX.out.kept hgw1 (by simp))
  have HR1 := Lib.hid (HR.out.kept hgw1 (by simp))
  have HW1 := Lib.hid (hr1.base (show w.heap.size + 2 ≤ _ from by have h1 := HR.out.lt; have h2 := HGB.out.size; omega))
  have d1 : w1.cell? ⟨w.heap.size, 1, none⟩ = some (.slice (some ⟨gl, 0, none⟩) ls.length cl) := HX1.out.cell rfl
  have dx : w1.cell? ⟨gl, m, none⟩ = some (.string x) := HG1.out.cell HXA.out (by simp)
  have hsz1 : w.heap.size + 2 ≤ w1.heap.size := by have h1 := HR1.out.lt; omega
  have HLN := Lib.hid (show (strs (ss ++ T)).length ≤ 2097152 from by rw [strs_len]; simp; omega)
  have hnI : (n : Int) ≤ x.size := by omega
  clear hr1 hg1 hgw1 HCC HGB HBB
  go_wp2_with (first | (at_builtin; refine wpList_append_row2 rfl _ _ 22 rfl 9 i9 (.string ⟨#[]⟩) 16 Try.underlying22 hi9 hz0 hz1 hz2 rfl (w.heap.size + 2) _ (strs (ss ++ T)) rfl (HW1.out.alloc _) ⟨_, 0, none⟩ 1 1 (strs [x.extract 0 n]) rfl rfl (news_new _ 9 (strs [x.extract 0 n])) (strs_one _) (by have := HLN.out; unfold maxLen; omega) (by have := HLN.out; omega) (by simp; omega) ?_; intro v2 w2 HR2 HG2 HO2))
  have hrow2 := HR2.out
  rw [show strs (ss ++ T) ++ strs [x.extract 0 n] = strs (ss ++ T ++ [x.extract 0 n]) from by simp [strs]] at hrow2
  have HGA := Lib.hid (show w.grownBy w2 none from grown_own (grown_alloc HG1.out _) HG2.out (fun q hq => by have := (HW1.out.lt q hq).1; omega))
  have HRA := Lib.hid (show Blk w2 (w.heap.size + 1) 26 [Value.slice none 0 0, .slice none 0 0] from (HR1.out.alloc _).kept HG2.out (fun e => by have := (HW1.out.lt _ e.symm).1; omega))
  obtain ⟨an, cn, rfl, hl2⟩ := hrow2.lies
  have HCO := Lib.hid (copied_any w2 _ an cn (ss ++ T ++ [x.extract 0 n]) hl2 (by simp; omega) HZ.out)
  generalize (ss ++ T ++ [x.extract 0 n]).length = N at HCO ⊢
  have HSZ := Lib.hid (show w.heap.size + 1 < w2.heap.size from HRA.out.lt)
  clear hrow2 hl2 HR2 HG2 HO2 d1 dx
  refine HCO.out.mono ?_
  rintro e w3 ⟨v3, rfl, hr3, hg3⟩
  have HG3 := Lib.hid (grown_trans HGA.out hg3)
  have HRB := Lib.hid (HRA.out.kept hg3 (by simp))
  have HRW := Lib.hid hr3
  obtain ⟨an2, cn2, rfl, -⟩ := hr3.lies
  have e0 : w3.cell? ⟨w.heap.size + 1, 0, none⟩ = some (.slice none 0 0) := HRB.out.cell rfl
  have e1 : w3.cell? ⟨w.heap.size + 1, 1, none⟩ = some (.slice none 0 0) := HRB.out.cell rfl
  have f0 := HRB.out.frozen 0
  have f1 := HRB.out.frozen 1
  clear hr3 hg3 HCO
  generalize (ss ++ T ++ [x.extract 0 n]).length = N2 at HRW ⊢
  go_wp2
  have hs2 := grown_set (grown_set (grown_refl w3 (some (w.heap.size + 1))) 0 (.slice an2 N2 cn2)) 1 (.slice none 0 0)
  have hrB := (HRB.out.set 0 (.slice an2 N2 cn2)).set 1 (.slice none 0 0)
  have hrow := HRW.out.kept hs2 (fun q hq e => by have h1 := (HRW.out.lt q hq).1; have h2 := HSZ.out; cases e; omega)
  have hgB := grown_into HG3.out hs2 (by omega)
  exact ⟨rfl, _, results_blk1 Try.results17 _ _ (w.heap.size + 1) 26 _ _ hrB Try.underlying26 rfl info26 rfl, _, rfl, hrow.base (by have := HSZ.out; omega), hgB⟩
end Go.Proofs.Ytpmjinlbfddmmaa
