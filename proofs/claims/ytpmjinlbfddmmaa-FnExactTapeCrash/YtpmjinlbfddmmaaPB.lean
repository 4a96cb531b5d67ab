/- A tape at which power fails, by the program: nothing is torn. -/
import Derived.Test.YtpmjinlbfddmmaaP5
namespace Go.Proofs.Ytpmjinlbfddmmaa
open Go.RowKit

set_option maxRecDepth 100000 in
set_option maxHeartbeats 2000000 in
theorem icrash_A (w : World) (gs cs gl cl : Nat) (ss ls : List ByteArray) (hs : At w ⟨gs, 0, none⟩ ss) (hl : At w ⟨gl, 0, none⟩ ls) (n1 : ss.length ≤ 1048576) (n2 : ls.length ≤ 1048576) (hcl : ls.length ≤ cl) (whole torn : Int) (m : Nat) (hm : m ≤ ls.length) (hmx : min (max whole 0) (ls.length : Int) = (m : Int)) (T : List ByteArray) (hT : T = ls.take m) (hno : ¬ ((m : Int) < ls.length ∧ 0 < torn)) (hz : ∀ s ∈ ss ++ T, s.size ≤ 1048576) :
    Calls Try.prog 17 #[.agg #[.slice (some ⟨gs, 0, none⟩) ss.length cs, .slice (some ⟨gl, 0, none⟩) ls.length cl], .int .i64 whole, .int .i64 torn] w fun e w' => ∃ v, e = .returned (.agg #[v, .slice none 0 0]) ∧ Row w' w.heap.size v (strs (ss ++ T)) ∧ w.grownBy w' none := by
  have HG := Lib.hid (show w.grownBy ((w.alloc (Obj.cells #[Value.slice (some ⟨gs, 0, none⟩) ss.length cs, .slice (some ⟨gl, 0, none⟩) ls.length cl] 26)).alloc (Obj.cells #[Value.slice none 0 0, .slice none 0 0] 26)) none from grown_alloc (grown_alloc (grown_refl _ _) _) _)
  have HBX := Lib.hid (show Blk ((w.alloc (Obj.cells #[Value.slice (some ⟨gs, 0, none⟩) ss.length cs, .slice (some ⟨gl, 0, none⟩) ls.length cl] 26)).alloc (Obj.cells #[Value.slice none 0 0, .slice none 0 0] 26)) w.heap.size 26 [Value.slice (some ⟨gs, 0, none⟩) ss.length cs, .slice (some ⟨gl, 0, none⟩) ls.length cl] from (Blk.new w 26 _).alloc _)
  have HBR := Lib.hid (show Blk ((w.alloc (Obj.cells #[Value.slice (some ⟨gs, 0, none⟩) ss.length cs, .slice (some ⟨gl, 0, none⟩) ls.length cl] 26)).alloc (Obj.cells #[Value.slice none 0 0, .slice none 0 0] 26)) (w.heap.size + 1) 26 [Value.slice none 0 0, .slice none 0 0] from by
    have := Blk.new (w.alloc (Obj.cells #[Value.slice (some ⟨gs, 0, none⟩) ss.length cs, .slice (some ⟨gl, 0, none⟩) ls.length cl] 26)) 26 [Value.slice none 0 0, .slice none 0 0]
    simpa using this)
  have HS := Lib.hid hs
  have HL := Lib.hid hl
  have HZ := Lib.hid hz
  have hTl : T.length = m := by rw [hT]; simp; omega
  have HLT := Lib.hid (show At w ⟨gl, 0, none⟩ T from fun j u hu => HL.out j u (by
    rw [hT] at hu
    simp only [strs, List.map_take] at hu ⊢
    rw [List.getElem?_take] at hu
    split at hu
    · exact hu
    · cases hu))
  have hmI : (m : Int) ≤ ls.length := by omega
  have hmc : (m : Int) ≤ cl := by omega
  clear hT
  clear hs hl hz
  go_enter Try.func17, Try.ntmps17
  go_wp2
  generalize ((w.alloc (Obj.cells #[Value.slice (some ⟨gs, 0, none⟩) ss.length cs, .slice (some ⟨gl, 0, none⟩) ls.length cl] 26)).alloc (Obj.cells #[Value.slice none 0 0, .slice none 0 0] 26)) = W at HG HBX HBR ⊢
  refine wp_still_tail 6 (by kernel_rfl) (by kernel_rfl) (fun wx => w.grownBy wx none ∧ Blk wx w.heap.size 26 [Value.slice (some ⟨gs, 0, none⟩) ss.length cs, .slice (some ⟨gl, 0, none⟩) ls.length cl] ∧ Blk wx (w.heap.size + 1) 26 [Value.slice none 0 0, .slice none 0 0]) ⟨grown_drew HG.out, HBX.out.drew, HBR.out.drew⟩ ?_
  rintro wx ⟨hgx, hbx, hbr⟩
  have HGX := Lib.hid hgx
  have HX := Lib.hid hbx
  have HR := Lib.hid hbr
  have d0 : wx.cell? ⟨w.heap.size, 0, none⟩ = some (.slice (some ⟨gs, 0, none⟩) ss.length cs) := hbx.cell rfl
  have d1 : wx.cell? ⟨w.heap.size, 1, none⟩ = some (.slice (some ⟨gl, 0, none⟩) ls.length cl) := hbx.cell rfl
  have HGB := Lib.hid (show wx.grownBy (wx.alloc (Obj.cells #[Value.slice (some ⟨gs, 0, none⟩) ss.length cs, .slice (some ⟨gl, 0, none⟩) m cl] 22)) none from grown_alloc (grown_refl _ _) _)
  have HBB := Lib.hid (Blk.new wx 22 [Value.slice (some ⟨gs, 0, none⟩) ss.length cs, .slice (some ⟨gl, 0, none⟩) m cl])
  have HCC := Lib.hid (concat_any (wx.alloc (Obj.cells #[Value.slice (some ⟨gs, 0, none⟩) ss.length cs, .slice (some ⟨gl, 0, none⟩) m cl] 22)) wx.heap.size gs 0 cs gl 0 cl ss T ((HS.out.kept HGX.out (by simp)).kept HGB.out (by simp)) ((HLT.out.kept HGX.out (by simp)).kept HGB.out (by simp)) n1 (by omega) (HBB.out.cell rfl) (by rw [hTl]; exact HBB.out.cell rfl))
  clear hgx hbx hbr HG HBX HBR
  simp only [List.take_succ_cons, List.take_zero, List.drop_succ_cons, List.drop_zero]
  repeat still_step
  refine wpStill_nil ?_
  clear d0 d1
  go_wp2_with fail
  refine HCC.out.mono ?_
  rintro e w1 ⟨v1, rfl, hr1, hg1⟩
  have hgw1 := grown_trans HGB.out hg1
  have HG1 := Lib.hid (grown_trans HGX.out hgw1)
  have HX1 := Lib.hid (HX.out.kept hgw1 (by simp))
  have HR1 := Lib.hid (HR.out.kept hgw1 (by simp))
  obtain ⟨an, cn, rfl, hl1⟩ := hr1.lies
  have hlen : (ss ++ T).length ≤ 2097152 := by simp; omega
  have HCO := Lib.hid (copied_any w1 _ an cn (ss ++ T) hl1 hlen HZ.out)
  have d1 : w1.cell? ⟨w.heap.size, 1, none⟩ = some (.slice (some ⟨gl, 0, none⟩) ls.length cl) := HX1.out.cell rfl
  generalize (ss ++ T).length = N at HCO ⊢
  have HSZ := Lib.hid (show w.heap.size + 1 < w1.heap.size from HR1.out.lt)
  clear hr1 hl1 hg1 hgw1 HCC HGB HBB hlen
  have HNO := Lib.hid hno
  clear hno
  by_cases hq : (m : Int) < ls.length
  · have hq2 : ¬ (0 : Int) < torn := fun h => HNO.out ⟨hq, h⟩
    go_wp2_with fail
    refine HCO.out.mono ?_
    rintro e w2 ⟨v2, rfl, hr2, hg2⟩
    have HG2 := Lib.hid (grown_trans HG1.out hg2)
    have HRB := Lib.hid (HR1.out.kept hg2 (by simp))
    have HRW := Lib.hid hr2
    obtain ⟨an2, cn2, rfl, -⟩ := hr2.lies
    have e0 : w2.cell? ⟨w.heap.size + 1, 0, none⟩ = some (.slice none 0 0) := HRB.out.cell rfl
    have e1 : w2.cell? ⟨w.heap.size + 1, 1, none⟩ = some (.slice none 0 0) := HRB.out.cell rfl
    have f0 := HRB.out.frozen 0
    have f1 := HRB.out.frozen 1
    clear hr2 hg2 HCO d1
    generalize (ss ++ T).length = N2 at HRW ⊢
    go_wp2
    have hs2 := grown_set (grown_set (grown_refl w2 (some (w.heap.size + 1))) 0 (.slice an2 N2 cn2)) 1 (.slice none 0 0)
    have hrB := (HRB.out.set 0 (.slice an2 N2 cn2)).set 1 (.slice none 0 0)
    have hrow := HRW.out.kept hs2 (fun q hq e => by have h1 := (HRW.out.lt q hq).1; have h2 := HSZ.out; cases e; omega)
    have hgB := grown_into HG2.out hs2 (by omega)
    exact ⟨rfl, _, results_blk1 Try.results17 _ _ (w.heap.size + 1) 26 _ _ hrB Try.underlying26 rfl info26 rfl, _, rfl, hrow.base (by have := HSZ.out; omega), hgB⟩
  · go_wp2_with fail
    refine HCO.out.mono ?_
    rintro e w2 ⟨v2, rfl, hr2, hg2⟩
    have HG2 := Lib.hid (grown_trans HG1.out hg2)
    have HRB := Lib.hid (HR1.out.kept hg2 (by simp))
    have HRW := Lib.hid hr2
    obtain ⟨an2, cn2, rfl, -⟩ := hr2.lies
    have e0 : w2.cell? ⟨w.heap.size + 1, 0, none⟩ = some (.slice none 0 0) := HRB.out.cell rfl
    have e1 : w2.cell? ⟨w.heap.size + 1, 1, none⟩ = some (.slice none 0 0) := HRB.out.cell rfl
    have f0 := HRB.out.frozen 0
    have f1 := HRB.out.frozen 1
    clear hr2 hg2 HCO d1
    generalize (ss ++ T).length = N2 at HRW ⊢
    go_wp2
    have hs2 := grown_set (grown_set (grown_refl w2 (some (w.heap.size + 1))) 0 (.slice an2 N2 cn2)) 1 (.slice none 0 0)
    have hrB := (HRB.out.set 0 (.slice an2 N2 cn2)).set 1 (.slice none 0 0)
    have hrow := HRW.out.kept hs2 (fun q hq e => by have h1 := (HRW.out.lt q hq).1; have h2 := HSZ.out; cases e; omega)
    have hgB := grown_into HG2.out hs2 (by omega)
    exact ⟨rfl, _, results_blk1 Try.results17 _ _ (w.heap.size + 1) 26 _ _ hrB Try.underlying26 rfl info26 rfl, _, rfl, hrow.base (by have := HSZ.out; omega), hgB⟩

end Go.Proofs.Ytpmjinlbfddmmaa
