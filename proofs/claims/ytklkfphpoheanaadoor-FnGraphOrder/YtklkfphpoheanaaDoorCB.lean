/- impl.GraphCycle. -/
import Derived.Test.YtklkfphpoheanaaDoorCA
import Derived.Test.YtklkfphpoheanaaDoorO2
namespace Go.Proofs.YtklkfphpoheanaaDoor
open Go.RowKit

set_option maxRecDepth 100000 in
set_option maxHeartbeats 1000000 in
theorem GraphCycle_any (w : World) (hw : Tabs w) (n : Int) (ao : Option Addr) (cap : Nat) (E : List (Int × Int)) (hE : NLies w ao E) (hl : E.length ≤ 1048576) :
    Calls Tryd.prog 9 #[.int .i64 n, .slice ao E.length cap] w fun e w' => ∃ v L, e = .returned v ∧ Row w' w.heap.size v (ints L) ∧ CycSpec n E L ∧ w.grownBy w' none := by
  have hO : Calls Tryd.prog 23 #[.int .i64 n, .slice ao E.length cap] w fun e w' => ∃ A b, e = .returned (.tuple #[.agg (gCells n A).toArray, .bool b]) ∧ A.length = 16 ∧ (b = true ↔ OkG n E) ∧ (b = true → A = adj E) ∧ w.grownBy w' none := by
    by_cases h : 0 ≤ n ∧ n ≤ 16
    · refine (graphOf_yes w n h.1 h.2 ao cap E hE hl).mono ?_
      rintro e w' ⟨A, b, rfl, h16, hb, hA, hg⟩
      exact ⟨A, b, rfl, h16, ⟨fun e => ⟨h.1, h.2, hb.1 e⟩, fun e => hb.2 e.2.2⟩, hA, hg⟩
    · refine (graphOf_no w n (by omega) ao E.length cap).mono ?_
      rintro e w' ⟨rfl, hg⟩
      exact ⟨_, false, rfl, rfl, ⟨(fun h => by cases h), fun e => absurd ⟨e.1, e.2.1⟩ h⟩, (fun h => by cases h), hg⟩
  have HO := Lib.hid hO
  have HW := Lib.hid hw
  clear hE hO hw
  go_enter Tryd.func9, Tryd.ntmps9
  go_wp2_with fail
  refine HO.out.mono ?_
  rintro e w1 ⟨A, b, rfl, hA16, hb, hA, hg1⟩
  have HG1 := Lib.hid hg1
  have hs1 := hg1.size
  have HI := Lib.hid (show (Tryd.prog.info? 49).map (·.size) = some (gCells n A).length from by rw [gCells_len, hA16]; exact info52)
  have HLL := Lib.hid (show (gCells 0 (List.replicate 16 0)).length = (gCells n A).length from by rw [gCells_len, gCells_len, hA16]; rfl)
  have HB0 := Lib.hid (Blk.new w1 49 (gCells 0 (List.replicate 16 0)))
  have HBB := Lib.hid hb
  have HAA := Lib.hid hA
  clear hg1 HO hb hA
  cases b
  · have HNO := Lib.hid (show ¬ OkG n E from fun h => by have := HBB.out.2 h; cases this)
    go_wp2_with (first | ((with_reducible refine wpList_store_blk ?_ 49 (.tmp 5) (.tmp 11) ?_ w1.heap.size (gCells n A) (gCells 0 (List.replicate 16 0)) 49 ?_ ?_ ?_ ?_ ?_ ?_ ?_); exact rfl; exact rfl; exact HB0.out; exact HI.out; exact HLL.out; exact gCells_one _ _; exact rfl; exact rfl; intro w2 HB2 HG2))
    go_ret
    exact ⟨_, [], rfl, Row.nil _ _, .inl ⟨HNO.out, rfl⟩, grown_into (grown_alloc HG1.out _) HG2.out hs1⟩
  · have hok := HBB.out.1 rfl
    have HOK := Lib.hid hok
    have hAA := HAA.out rfl
    subst hAA
    obtain ⟨m, rfl⟩ := Int.eq_ofNat_of_zero_le hok.1
    have hm16 : m ≤ 16 := by have := hok.2.1; omega
    have HRNG := Lib.hid (fun W (h : w.grownBy W none) => ring_any W m E hm16 hok.2.2 (HW.out.grown h))
    clear hok HAA HBB
    go_wp2_with (first | ((with_reducible refine wpList_store_blk ?_ 49 (.tmp 5) (.tmp 11) ?_ w1.heap.size (gCells m (adj E)) (gCells 0 (List.replicate 16 0)) 49 ?_ ?_ ?_ ?_ ?_ ?_ ?_); exact rfl; exact rfl; exact HB0.out; exact HI.out; exact HLL.out; exact gCells_one _ _; exact rfl; exact rfl; intro w2 HB2 HG2) | ((with_reducible refine wpList_load_blk ?_ 49 (.tmp 5) ?_ w1.heap.size (gCells m (adj E)) 49 ?_ _ Tryd.underlying49 ?_ ?_ ?_ ?_); exact rfl; exact rfl; exact HB2.out; exact rfl; exact HI.out; exact rfl))
    have HGW := Lib.hid (show w.grownBy w2 none from grown_into (grown_alloc HG1.out _) HG2.out hs1)
    refine (HRNG.out w2 HGW.out).mono ?_
    rintro e w3 ⟨v, L, rfl, hrow, hcy, hg3⟩
    have HFIN := Lib.hid (show Row w3 w.heap.size v (ints L) ∧ CycSpec m E L ∧ w.grownBy w3 none from ⟨hrow.base HGW.out.size, .inr ⟨HOK.out, hcy⟩, grown_trans HGW.out hg3⟩)
    clear hrow hcy hg3 HRNG HB2 HG2
    go_wp2
    go_ret
    exact ⟨v, L, rfl, HFIN.out.1, HFIN.out.2.1, HFIN.out.2.2⟩
end Go.Proofs.YtklkfphpoheanaaDoor
