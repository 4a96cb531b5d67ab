/- The program's counts of levels and parts. -/
import Derived.Test.YtgmigloafcejdaaGreatDoorI3
import Derived.Defers
namespace Go.Proofs.YtgmigloafcejdaaGreatDoor
open Go.RowKit

/-- an error that says that a value is not ok -/
def Fault (v : Value) : Prop := ∃ q : Int, v = .iface 93 (.agg #[.int .i64 q])
/-- how many levels and parts there are -/
def Cnt (w : World) (bc : Nat) (l p : Nat) : Prop := Blk w bc 112 [.int .i64 (l : Int), .int .i64 (p : Int)]

set_option maxHeartbeats 1000000 in
theorem fault_any (w : World) (bc l p : Nat) (hb : Cnt w bc l p) : Calls Tryz.prog 57 #[.pointer (some ⟨bc, 0, none⟩)] w fun e w' => e = .returned (.iface 93 (.agg #[.int .i64 (p : Int)])) ∧ w' = w := by
  have d1 : w.cell? ⟨bc, 1, none⟩ = some (.int .i64 (p : Int)) := hb.cell rfl
  clear hb
  go_enter Tryz.func57, Tryz.ntmps57
  go_wp2
  go_ret
  exact ⟨rfl, rfl⟩

set_option maxHeartbeats 1000000 in
theorem unless_yes (w : World) (bc : Nat) : Calls Tryz.prog 80 #[.pointer (some ⟨bc, 0, none⟩), .bool true] w fun e w' => e = .returned .nilIface ∧ w' = w := by
  go_enter Tryz.func80, Tryz.ntmps80
  go_wp2
  go_ret
  exact ⟨rfl, rfl⟩
set_option maxHeartbeats 1000000 in
theorem unless_no (w : World) (bc l p : Nat) (hb : Cnt w bc l p) : Calls Tryz.prog 80 #[.pointer (some ⟨bc, 0, none⟩), .bool false] w fun e w' => e = .returned (.iface 93 (.agg #[.int .i64 (p : Int)])) ∧ w' = w := by
  have HF := Lib.hid (fault_any w bc l p hb)
  clear hb
  go_enter Tryz.func80, Tryz.ntmps80
  go_wp2_with fail
  refine HF.out.mono ?_
  rintro e w1 ⟨rfl, hw⟩
  have hw := hw.symm
  subst hw
  go_wp2
  go_ret
  exact ⟨rfl, rfl⟩

theorem Cnt.two {w : World} {bc l p : Nat} (hb : Cnt w bc l p) (l' p' : Nat) : Cnt ((w.setCell ⟨bc, 0, none⟩ (.int .i64 (l' : Int))).setCell ⟨bc, 1, none⟩ (.int .i64 (p' : Int))) bc l' p' := by
  have h := (Blk.set (Blk.set hb 0 (.int .i64 (l' : Int))) 1 (.int .i64 (p' : Int)))
  exact h

set_option maxHeartbeats 1000000 in
theorem enter_yes (w : World) (bc l p : Nat) (hb : Cnt w bc l p) (hl : l < 3) (hp : p < 16) : Calls Tryz.prog 55 #[.pointer (some ⟨bc, 0, none⟩)] w fun e w' => e = .returned .nilIface ∧ Cnt w' bc (l + 1) (p + 1) ∧ w.grownBy w' (some bc) := by
  have d0 : w.cell? ⟨bc, 0, none⟩ = some (.int .i64 (l : Int)) := hb.cell rfl
  have d1 : w.cell? ⟨bc, 1, none⟩ = some (.int .i64 (p : Int)) := hb.cell rfl
  have f0 := hb.frozen 0
  have f1 := hb.frozen 1
  have HC := Lib.hid (hb.two (l + 1) (p + 1))
  have HG := Lib.hid (grown_set (grown_set (grown_refl w (some bc)) 0 (.int .i64 ((l + 1 : Nat) : Int))) 1 (.int .i64 ((p + 1 : Nat) : Int)))
  rw [show ((l + 1 : Nat) : Int) = (l : Int) + 1 from by omega, show ((p + 1 : Nat) : Int) = (p : Int) + 1 from by omega] at HC HG
  have hlI : (l : Int) + 1 ≤ 3 := by omega
  have hpI : (p : Int) + 1 ≤ 16 := by omega
  have HU := Lib.hid (fun X : World => unless_yes X bc)
  clear hb
  go_enter Tryz.func55, Tryz.ntmps55
  go_wp2_with fail
  refine (HU.out _).mono ?_
  rintro e w1 ⟨rfl, hw⟩
  have HW := Lib.hid hw
  clear hw
  go_wp2
  go_ret
  rw [HW.out]
  exact ⟨rfl, HC.out, HG.out⟩

set_option maxHeartbeats 1000000 in
theorem enter_no (w : World) (bc l p : Nat) (hb : Cnt w bc l p) (hl : l ≤ 3) (hp : p ≤ 16) (h : ¬ (l < 3 ∧ p < 16)) : Calls Tryz.prog 55 #[.pointer (some ⟨bc, 0, none⟩)] w fun e w' => e = .returned (.iface 93 (.agg #[.int .i64 ((p : Int) + 1)])) ∧ Cnt w' bc (l + 1) (p + 1) ∧ w.grownBy w' (some bc) := by
  have d0 : w.cell? ⟨bc, 0, none⟩ = some (.int .i64 (l : Int)) := hb.cell rfl
  have d1 : w.cell? ⟨bc, 1, none⟩ = some (.int .i64 (p : Int)) := hb.cell rfl
  have f0 := hb.frozen 0
  have f1 := hb.frozen 1
  have HC := Lib.hid (hb.two (l + 1) (p + 1))
  have HG := Lib.hid (grown_set (grown_set (grown_refl w (some bc)) 0 (.int .i64 ((l + 1 : Nat) : Int))) 1 (.int .i64 ((p + 1 : Nat) : Int)))
  have HU := Lib.hid (unless_no _ bc (l + 1) (p + 1) HC.out)
  rw [show ((l + 1 : Nat) : Int) = (l : Int) + 1 from by omega, show ((p + 1 : Nat) : Int) = (p : Int) + 1 from by omega] at HC HG HU
  have hlB : (l : Int) + 1 ≤ 4 := by omega
  have hpB : (p : Int) + 1 ≤ 17 := by omega
  clear hb
  by_cases hlI : (l : Int) + 1 ≤ 3
  · have hpI : ¬ (p : Int) + 1 ≤ 16 := by omega
    clear h hl hp
    go_enter Tryz.func55, Tryz.ntmps55
    go_wp2_with fail
    refine HU.out.mono ?_
    rintro e w1 ⟨rfl, hw⟩
    have HW := Lib.hid hw
    clear hw
    go_wp2
    go_ret
    rw [HW.out]
    exact ⟨rfl, HC.out, HG.out⟩
  · clear h
    go_enter Tryz.func55, Tryz.ntmps55
    go_wp2_with fail
    refine HU.out.mono ?_
    rintro e w1 ⟨rfl, hw⟩
    have HW := Lib.hid hw
    clear hw
    go_wp2
    go_ret
    rw [HW.out]
    exact ⟨rfl, HC.out, HG.out⟩

set_option maxHeartbeats 1000000 in
theorem leave_d (w : World) (u : FrameMode) (bc l p : Nat) (hb : Cnt w bc (l + 1) p) (hl : l ≤ 100) : CallsD Tryz.prog 56 #[.pointer (some ⟨bc, 0, none⟩)] u w fun e u' w' => u' = u ∧ (e = .returned (.tuple #[]) ∧ Cnt w' bc l p ∧ w.grownBy w' (some bc)) := by
  have d0 : w.cell? ⟨bc, 0, none⟩ = some (.int .i64 ((l + 1 : Nat) : Int)) := hb.cell rfl
  have f0 := hb.frozen 0
  have HC := Lib.hid (show Cnt (w.setCell ⟨bc, 0, none⟩ (.int .i64 (l : Int))) bc l p from Blk.set hb 0 (.int .i64 (l : Int)))
  have HG := Lib.hid (grown_set (grown_refl w (some bc)) 0 (.int .i64 (l : Int)))
  obtain ⟨x, hx⟩ : ∃ x : Int, x = ((l + 1 : Nat) : Int) := ⟨_, rfl⟩
  rw [← hx] at d0
  have hx1 : x - 1 = (l : Int) := by omega
  have hx2 : x ≤ 101 := by omega
  have hx3 : 1 ≤ x := by omega
  clear hb hx
  go_enter_d Tryz.func56, Tryz.ntmps56
  go_wp2
  go_end0
  exact ⟨rfl, HC.out, HG.out⟩
end Go.Proofs.YtgmigloafcejdaaGreatDoor
