/- FnExactGateNew, walked to its end. -/
import Derived.Test.YtgidhfcnjboieaaGN1
namespace Go.Proofs.Ytgidhfcnjboieaa
open Go.RowKit

set_option maxRecDepth 100000 in
set_option maxHeartbeats 8000000 in
theorem exactGateNew_walk (w : World) (key : ByteArray) :
    Calls Try.prog 4 #[.string key] w fun e w' => e = .returned (.bool true) ∧ w.grownBy w' none := by
  by_cases hbig : (1048576 : Int) < key.size
  · go_enter Try.func4, Try.ntmps4
    go_wp2
    go_ret
    exact ⟨rfl, grown_refl _ _⟩
  have hk : key.size ≤ 1048576 := by omega
  have HS := Lib.hid (fun W => sgate_any W key)
  have HI := Lib.hid (fun W => igate_any W key hk)
  have HE := Lib.hid (fun W => eqGate_new W key)
  have HM := Lib.hid (fun W => markGate_new W key 1)
  have HH := Lib.hid (fun W => heldGate_new W key 1 (by omega))
  go_enter Try.func4, Try.ntmps4
  go_wp2_with fail
  refine (HS.out _).mono ?_
  rintro e w1 ⟨rfl, hg1⟩
  have HG1 := Lib.hid (grown_trans (grown_refl w none) hg1)
  clear hg1
  obtain ⟨a1, ha1⟩ : ∃ a1, w1.alloc (Obj.cells #[Value.int .i64 0, .string key, .slice none 0 0, .slice none 0 0, .slice none 0 0, .slice none 0 0, .slice none 0 0, .bool true] 41) = a1 := ⟨_, rfl⟩
  have HA1 := Lib.hid (show w.grownBy a1 none from by rw [← ha1]; exact grown_alloc HG1.out _)
  have HX1a := Lib.hid (show Blk a1 w1.heap.size 41 (gcell key) from by rw [← ha1]; exact Blk.new w1 41 _)
  have HW1 := Lib.hid ha1
  clear ha1
  go_wp2_with fail
  rw [HW1.out]
  refine (HI.out _).mono ?_
  rintro e w2 ⟨rfl, hg2⟩
  have HG2 := Lib.hid (grown_trans HA1.out hg2)
  have HX2 := Lib.hid (HX1a.out.kept hg2 (by simp))
  clear HX1a
  clear hg2
  obtain ⟨a2, ha2⟩ : ∃ a2, w2.alloc (Obj.cells #[Value.int .i64 0, .string key, .slice none 0 0, .slice none 0 0, .slice none 0 0, .slice none 0 0, .slice none 0 0, .bool true] 41) = a2 := ⟨_, rfl⟩
  have HA2 := Lib.hid (show w.grownBy a2 none from by rw [← ha2]; exact grown_alloc HG2.out _)
  have HX2a := Lib.hid (show Blk a2 _ _ _ from by rw [← ha2]; exact HX2.out.alloc _)
  clear HX2
  have HY2a := Lib.hid (show Blk a2 w2.heap.size 41 (gcell key) from by rw [← ha2]; exact Blk.new w2 41 _)
  have HW2 := Lib.hid ha2
  clear ha2
  obtain ⟨Y0, Y1, Y2, Y3, Y4, Y5, Y6, Y7⟩ := gcells (w2.alloc (Obj.cells #[Value.int .i64 0, .string key, .slice none 0 0, .slice none 0 0, .slice none 0 0, .slice none 0 0, .slice none 0 0, .bool true] 41)) _ key (by rw [HW2.out]; exact HY2a.out)
  obtain ⟨X0, X1, X2, X3, X4, X5, X6, X7⟩ := gcells (w2.alloc (Obj.cells #[Value.int .i64 0, .string key, .slice none 0 0, .slice none 0 0, .slice none 0 0, .slice none 0 0, .slice none 0 0, .bool true] 41)) _ key (by rw [HW2.out]; exact HX2a.out)
  go_wp2_with fail
  rw [HW2.out]
  refine (HE.out _).mono ?_
  rintro e w3 ⟨rfl, hg3⟩
  have HG3 := Lib.hid (grown_trans HA2.out hg3)
  have HX3 := Lib.hid (HX2a.out.kept hg3 (by simp))
  clear HX2a
  have HY3 := Lib.hid (HY2a.out.kept hg3 (by simp))
  clear HY2a
  clear hg3 Y0 Y1 Y2 Y3 Y4 Y5 Y6 Y7 X0 X1 X2 X3 X4 X5 X6 X7
  obtain ⟨Y0, Y1, Y2, Y3, Y4, Y5, Y6, Y7⟩ := gcells _ _ key (HY3.out)
  go_wp2_with fail
  refine (HM.out _).mono ?_
  rintro e w4 ⟨rfl, hg4⟩
  have HG4 := Lib.hid (grown_trans HG3.out hg4)
  have HX4 := Lib.hid (HX3.out.kept hg4 (by simp))
  clear HX3
  have HY4 := Lib.hid (HY3.out.kept hg4 (by simp))
  clear HY3
  clear hg4 Y0 Y1 Y2 Y3 Y4 Y5 Y6 Y7
  obtain ⟨Y0, Y1, Y2, Y3, Y4, Y5, Y6, Y7⟩ := gcells _ _ key (HY4.out)
  go_wp2_with fail
  refine (HH.out _).mono ?_
  rintro e w5 ⟨rfl, hg5⟩
  have HG5 := Lib.hid (grown_trans HG4.out hg5)
  have HX5 := Lib.hid (HX4.out.kept hg5 (by simp))
  clear HX4
  have HY5 := Lib.hid (HY4.out.kept hg5 (by simp))
  clear HY4
  clear hg5 Y0 Y1 Y2 Y3 Y4 Y5 Y6 Y7
  go_wp2_with fail
  refine (HI.out _).mono ?_
  rintro e w6 ⟨rfl, hg6⟩
  have HG6 := Lib.hid (grown_trans HG5.out hg6)
  have HX6 := Lib.hid (HX5.out.kept hg6 (by simp))
  clear HX5
  have HY6 := Lib.hid (HY5.out.kept hg6 (by simp))
  clear HY5
  clear hg6
  obtain ⟨a6, ha6⟩ : ∃ a6, w6.alloc (Obj.cells #[Value.int .i64 0, .string key, .slice none 0 0, .slice none 0 0, .slice none 0 0, .slice none 0 0, .slice none 0 0, .bool true] 41) = a6 := ⟨_, rfl⟩
  have HA6 := Lib.hid (show w.grownBy a6 none from by rw [← ha6]; exact grown_alloc HG6.out _)
  have HX6a := Lib.hid (show Blk a6 _ _ _ from by rw [← ha6]; exact HX6.out.alloc _)
  clear HX6
  have HY6a := Lib.hid (show Blk a6 _ _ _ from by rw [← ha6]; exact HY6.out.alloc _)
  clear HY6
  have HZ6a := Lib.hid (show Blk a6 w6.heap.size 41 (gcell key) from by rw [← ha6]; exact Blk.new w6 41 _)
  have HW6 := Lib.hid ha6
  clear ha6
  obtain ⟨Z0, Z1, Z2, Z3, Z4, Z5, Z6, Z7⟩ := gcells (w6.alloc (Obj.cells #[Value.int .i64 0, .string key, .slice none 0 0, .slice none 0 0, .slice none 0 0, .slice none 0 0, .slice none 0 0, .bool true] 41)) _ key (by rw [HW6.out]; exact HZ6a.out)
  obtain ⟨X0, X1, X2, X3, X4, X5, X6, X7⟩ := gcells (w6.alloc (Obj.cells #[Value.int .i64 0, .string key, .slice none 0 0, .slice none 0 0, .slice none 0 0, .slice none 0 0, .slice none 0 0, .bool true] 41)) _ key (by rw [HW6.out]; exact HX6a.out)
  go_wp2_with fail
  rw [HW6.out]
  refine (HE.out _).mono ?_
  rintro e w7 ⟨rfl, hg7⟩
  have HG7 := Lib.hid (grown_trans HA6.out hg7)
  have HX7 := Lib.hid (HX6a.out.kept hg7 (by simp))
  clear HX6a
  have HY7 := Lib.hid (HY6a.out.kept hg7 (by simp))
  clear HY6a
  have HZ7 := Lib.hid (HZ6a.out.kept hg7 (by simp))
  clear HZ6a
  clear hg7 Z0 Z1 Z2 Z3 Z4 Z5 Z6 Z7 X0 X1 X2 X3 X4 X5 X6 X7
  obtain ⟨Y0, Y1, Y2, Y3, Y4, Y5, Y6, Y7⟩ := gcells _ _ key (HY7.out)
  go_wp2_with fail
  refine (HH.out _).mono ?_
  rintro e w8 ⟨rfl, hg8⟩
  have HG8 := Lib.hid (grown_trans HG7.out hg8)
  have HX8 := Lib.hid (HX7.out.kept hg8 (by simp))
  clear HX7
  have HY8 := Lib.hid (HY7.out.kept hg8 (by simp))
  clear HY7
  have HZ8 := Lib.hid (HZ7.out.kept hg8 (by simp))
  clear HZ7
  clear hg8 Y0 Y1 Y2 Y3 Y4 Y5 Y6 Y7
  go_wp2
  go_ret
  exact ⟨rfl, HG8.out⟩
end Go.Proofs.Ytgidhfcnjboieaa
