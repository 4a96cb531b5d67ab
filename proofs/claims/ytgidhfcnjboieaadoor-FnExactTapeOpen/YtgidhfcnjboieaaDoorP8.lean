/- Tapes, copied, marked, and asked whether they hold their marks. -/
import Derived.Test.YtgidhfcnjboieaaDoorP7
namespace Go.Proofs.YtgidhfcnjboieaaDoor
open Go.RowKit

set_option maxRecDepth 100000 in
set_option maxHeartbeats 2000000 in
theorem toTape_any (w : World) (b1 b2 : Nat) (a1 a2 : Option Addr) (c1 c2 : Nat) (ss ls : List ByteArray) (h1 : Lies w b1 a1 ss) (h2 : Lies w b2 a2 ls) (n1 : ss.length ≤ 1048576) (n2 : ls.length ≤ 1048576) :
    Calls Tryd.prog 12 #[.agg #[.slice a1 ss.length c1, .slice a2 ls.length c2]] w fun e w' => ∃ g1 g2, e = .returned (.agg #[.slice (some ⟨g1, 0, none⟩) ss.length ss.length, .slice (some ⟨g2, 0, none⟩) ls.length ls.length]) ∧ w.heap.size ≤ g1 ∧ g1 < g2 ∧ Blk w' g1 9 (strs ss) ∧ Blk w' g2 9 (strs ls) ∧ w.grownBy w' none := by
  obtain ⟨W, hWe⟩ : ∃ W, (((w.alloc (Obj.cells #[Value.slice a1 ss.length c1, .slice a2 ls.length c2] 31)).alloc (Obj.cells #[Value.slice none 0 0, .slice none 0 0] 25)).alloc (Obj.cells #[Value.slice none 0 0, .slice none 0 0] 25)) = W := ⟨_, rfl⟩
  have HG := Lib.hid (show w.grownBy W none from by rw [← hWe]; exact grown_alloc (grown_alloc (grown_alloc (grown_refl _ _) _) _) _)
  have HX := Lib.hid (show Blk W w.heap.size 31 [Value.slice a1 ss.length c1, .slice a2 ls.length c2] from by rw [← hWe]; exact ((Blk.new w 31 _).alloc _).alloc _)
  have HR := Lib.hid (show Blk W (w.heap.size + 1) 25 [Value.slice none 0 0, .slice none 0 0] from by
    rw [← hWe]
    have := (Blk.new (w.alloc (Obj.cells #[Value.slice a1 ss.length c1, .slice a2 ls.length c2] 31)) 25 [Value.slice none 0 0, .slice none 0 0]).alloc (Obj.cells #[Value.slice none 0 0, .slice none 0 0] 25)
    simpa using this)
  have HO := Lib.hid (show Blk W (w.heap.size + 1 + 1) 25 [Value.slice none 0 0, .slice none 0 0] from by
    rw [← hWe]
    have := Blk.new ((w.alloc (Obj.cells #[Value.slice a1 ss.length c1, .slice a2 ls.length c2] 31)).alloc (Obj.cells #[Value.slice none 0 0, .slice none 0 0] 25)) 25 [Value.slice none 0 0, .slice none 0 0]
    simpa using this)
  have hsz : w.heap.size + 1 + 1 < W.heap.size := HO.out.lt
  have HT := Lib.hid (toS2_any W b1 a1 c1 ss (h1.kept HG.out (fun q e => by cases e)) n1)
  have H2 := Lib.hid h2
  have HWE := Lib.hid hWe
  clear h1 h2 hWe
  go_enter Tryd.func12, Tryd.ntmps12
  go_wp2_with fail
  rw [HWE.out]
  refine HT.out.mono ?_
  rintro e w1 ⟨rfl, hb1, hg1⟩
  have HB1 := Lib.hid hb1
  have HX1 := Lib.hid (HX.out.kept hg1 (by simp))
  have HR1 := Lib.hid (HR.out.kept hg1 (by simp))
  have HO1 := Lib.hid (HO.out.kept hg1 (by simp))
  have HG1 := Lib.hid (grown_trans HG.out hg1)
  have HSZ1 := Lib.hid (show W.heap.size < w1.heap.size from hb1.lt)
  have hs1 := grown_set (grown_refl w1 (some (w.heap.size + 1 + 1))) 0 (.slice (some ⟨W.heap.size, 0, none⟩) ss.length ss.length)
  obtain ⟨w1s, hw1s⟩ : ∃ x, w1.setCell ⟨w.heap.size + 1 + 1, 0, none⟩ (.slice (some ⟨W.heap.size, 0, none⟩) ss.length ss.length) = x := ⟨_, rfl⟩
  rw [hw1s] at hs1
  have HW1S := Lib.hid hw1s
  have HGS := Lib.hid (show w.grownBy w1s none from grown_into HG1.out hs1 (by omega))
  have HOS := Lib.hid (show Blk w1s (w.heap.size + 1 + 1) 25 [.slice (some ⟨W.heap.size, 0, none⟩) ss.length ss.length, .slice none 0 0] from by rw [← hw1s]; exact HO1.out.set 0 _)
  have HBS := Lib.hid (HB1.out.kept hs1 (by intro e; have := Option.some.inj e; omega))
  have HRS := Lib.hid (HR1.out.kept hs1 (by intro e; have := Option.some.inj e; omega))
  have HXS := Lib.hid (HX1.out.kept hs1 (by intro e; have := Option.some.inj e; omega))
  have HSS := Lib.hid (show w1.heap.size ≤ w1s.heap.size from hs1.size)
  have d0 : w1.cell? ⟨w.heap.size + 1 + 1, 0, none⟩ = some (.slice none 0 0) := HO1.out.cell rfl
  have f0 := HO1.out.frozen 0
  have x1 : w1s.cell? ⟨w.heap.size, 1, none⟩ = some (.slice a2 ls.length c2) := HXS.out.cell rfl
  have HT2 := Lib.hid (toS2_any w1s b2 a2 c2 ls (H2.out.kept HGS.out (fun q e => by cases e)) n2)
  have x1' : w1.cell? ⟨w.heap.size, 1, none⟩ = some (.slice a2 ls.length c2) := HX1.out.cell rfl
  clear hb1 hg1 HT hs1 hw1s
  go_wp2_with fail
  rw [HW1S.out]
  refine HT2.out.mono ?_
  rintro e w2 ⟨rfl, hb2, hg2⟩
  have HB2 := Lib.hid hb2
  have HB12 := Lib.hid (HBS.out.kept hg2 (by simp))
  have HR2 := Lib.hid (HRS.out.kept hg2 (by simp))
  have HO2 := Lib.hid (HOS.out.kept hg2 (by simp))
  have HG2 := Lib.hid (grown_trans HGS.out hg2)
  have e0 : w2.cell? ⟨w.heap.size + 1 + 1, 0, none⟩ = some (.slice (some ⟨W.heap.size, 0, none⟩) ss.length ss.length) := HO2.out.cell rfl
  have e1 : w2.cell? ⟨w.heap.size + 1 + 1, 1, none⟩ = some (.slice none 0 0) := HO2.out.cell rfl
  have r0 : w2.cell? ⟨w.heap.size + 1, 0, none⟩ = some (.slice none 0 0) := HR2.out.cell rfl
  have r1 : w2.cell? ⟨w.heap.size + 1, 1, none⟩ = some (.slice none 0 0) := HR2.out.cell rfl
  have f1 := HO2.out.frozen 1
  have g0 := HR2.out.frozen 0
  have g1 := HR2.out.frozen 1
  clear hb2 hg2 HT2 d0 f0 x1 x1'
  go_wp2
  have hsA := grown_set (grown_refl w2 (some (w.heap.size + 1 + 1))) 1 (.slice (some ⟨w1s.heap.size, 0, none⟩) ls.length ls.length)
  have hk := HSZ1.out
  have hk2 := HSS.out
  have hrA := HR2.out.kept hsA (by intro e; have := Option.some.inj e; omega)
  have hb1A := HB12.out.kept hsA (by intro e; have := Option.some.inj e; omega)
  have hb2A := HB2.out.kept hsA (by intro e; have := Option.some.inj e; omega)
  have hgA := grown_into HG2.out hsA (by omega)
  have hsB := grown_set (grown_set (grown_refl (w2.setCell ⟨w.heap.size + 1 + 1, 1, none⟩ (.slice (some ⟨w1s.heap.size, 0, none⟩) ls.length ls.length)) (some (w.heap.size + 1))) 0 (.slice (some ⟨W.heap.size, 0, none⟩) ss.length ss.length)) 1 (.slice (some ⟨w1s.heap.size, 0, none⟩) ls.length ls.length)
  have hrB := (hrA.set 0 (.slice (some ⟨W.heap.size, 0, none⟩) ss.length ss.length)).set 1 (.slice (some ⟨w1s.heap.size, 0, none⟩) ls.length ls.length)
  have hb1B := hb1A.kept hsB (by intro e; have := Option.some.inj e; omega)
  have hb2B := hb2A.kept hsB (by intro e; have := Option.some.inj e; omega)
  have hgB := grown_into hgA hsB (by omega)
  exact ⟨rfl, _, results_blk1 Tryd.results12 _ _ (w.heap.size + 1) 25 _ _ hrB Tryd.underlying25 rfl info26 rfl, _, _, rfl, by omega, by omega, hb1B, hb2B, hgB⟩
end Go.Proofs.YtgidhfcnjboieaaDoor
