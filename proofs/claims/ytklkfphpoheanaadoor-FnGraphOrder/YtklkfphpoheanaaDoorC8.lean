/- impl's graphTurned. -/
import Derived.Test.YtklkfphpoheanaaDoorC7
import Derived.Test.YtklkfphpoheanaaDoorP5
namespace Go.Proofs.YtklkfphpoheanaaDoor
open Go.RowKit

set_option maxRecDepth 100000 in
set_option maxHeartbeats 1000000 in
theorem turned_any (w : World) (g o cp : Nat) (R : List Int) (h0 : 0 < R.length) (h1 : R.length ≤ 16) (hcp : R.length ≤ cp) (hc : ∀ j, j < R.length → w.cell? ⟨g, o + j, none⟩ = some (.int .i64 (R.getD j 0))) :
    Calls Tryd.prog 46 #[.slice (some ⟨g, o, none⟩) R.length cp] w fun e w' => ∃ v L, e = .returned v ∧ Row w' w.heap.size v (ints L) ∧ TurnOf R L ∧ w.grownBy w' none := by
  have HC := Lib.hid hc
  clear hc
  have HMIN := Lib.hid (min_any w R (some ⟨g, o, none⟩) g o cp (fun _ => rfl) HC.out (by omega) h0)
  have HIDX := Lib.hid (fun k => index_any w R (some ⟨g, o, none⟩) g o cp (fun _ => rfl) HC.out (by omega) k)
  go_enter Tryd.func46, Tryd.ntmps46
  go_wp2_with fail
  refine HMIN.out.mono ?_
  rintro e w1 ⟨m, rfl, hm, hle, hw⟩
  have hw := hw.symm
  subst hw
  have HM := Lib.hid hm
  have HLE := Lib.hid hle
  clear hm hle HMIN
  go_wp2_with fail
  refine (HIDX.out m).mono ?_
  rintro e w1 ⟨r, rfl, hat, hw⟩
  have hw := hw.symm
  subst hw
  obtain ⟨l, rfl, hl, -, -⟩ := hat.yes HM.out
  have HAT := Lib.hid hat
  have hlI : (l : Int) ≤ R.length := by omega
  have hlc : (l : Int) ≤ cp := by omega
  have hlcp : (R.length : Int) ≤ cp := by omega
  clear hat HIDX
  go_wp2_with fail
  have hl0 : (0 : Int) ≤ (l : Int) := by omega
  refine wp_still_tail 6 (by kernel_rfl) (by kernel_rfl) (fun wx => w.grownBy wx none) (grown_drew (grown_refl _ _)) ?_
  intro wx hg1
  have HG1 := Lib.hid hg1
  clear hg1
  simp only [List.take_succ_cons, List.take_zero, List.drop_succ_cons, List.drop_zero]
  repeat still_step
  refine wpStill_nil ?_
  have HGA := Lib.hid (show w.grownBy (wx.alloc (Obj.cells #[Value.slice (some ⟨g, o + l, none⟩) (R.length - l) (cp - l), Value.slice (some ⟨g, o, none⟩) l cp] 26)) none from grown_alloc HG1.out _)
  have HBL := Lib.hid (Blk.new wx 26 [Value.slice (some ⟨g, o + l, none⟩) (R.length - l) (cp - l), Value.slice (some ⟨g, o, none⟩) l cp])
  have HCC := Lib.hid (concat_any (wx.alloc (Obj.cells #[Value.slice (some ⟨g, o + l, none⟩) (R.length - l) (cp - l), Value.slice (some ⟨g, o, none⟩) l cp] 26)) wx.heap.size 2 g (o + l) o (R.length - l) l (cp - l) cp (R.drop l) (R.take l) (HBL.out.cell rfl) (HBL.out.cell rfl) (by simp) (by simp; omega) (by omega) (by omega)
    (fun j hj => by
      rw [Nat.add_assoc, HGA.out.cell (HC.out (l + j) (by omega)) (by simp)]
      simp [List.getElem?_drop])
    (fun j hj => by
      rw [HGA.out.cell (HC.out j (by omega)) (by simp)]
      simp [hj]))
  clear HBL
  go_wp2_with fail
  refine HCC.out.mono ?_
  rintro e w4 ⟨v, rfl, hrow, hg4⟩
  have hsz : w.heap.size ≤ (wx.alloc (Obj.cells #[Value.slice (some ⟨g, o + l, none⟩) (R.length - l) (cp - l), Value.slice (some ⟨g, o, none⟩) l cp] 26)).heap.size := HGA.out.size
  have HFIN := Lib.hid (show Row w4 w.heap.size v (ints (R.drop l ++ R.take l)) ∧ w.grownBy w4 none from ⟨hrow.base hsz, grown_trans HGA.out hg4⟩)
  clear hrow hg4 hsz HCC HGA
  go_wp2
  go_ret
  exact ⟨v, R.drop l ++ R.take l, rfl, HFIN.out.1, ⟨m, l, HM.out, HLE.out, HAT.out, rfl⟩, HFIN.out.2⟩
end Go.Proofs.YtklkfphpoheanaaDoor
