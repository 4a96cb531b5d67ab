/- FnExactGateNew, walked: a gate of a key, up, with nothing on its tape. -/
import Derived.Test.YtgidhfcnjboieaaV1
namespace Go.Proofs.Ytgidhfcnjboieaa
open Go.RowKit

/-- the cells of a new gate of a key -/
def gcell (key : ByteArray) : List Value := [.int .i64 0, .string key, .slice none 0 0, .slice none 0 0, .slice none 0 0, .slice none 0 0, .slice none 0 0, .bool true]
theorem infoGate : (Try.prog.info? 41).map (·.size) = some 8 := by kernel_rfl

set_option maxRecDepth 100000 in
set_option maxHeartbeats 1000000 in
theorem eqSn_nil (w : World) : Calls Try.prog 51 #[.slice none 0 0, .slice none 0 0] w fun e w' => e = .returned (.bool true) ∧ w' = w := by
  go_enter Try.func51, Try.ntmps51
  go_wp2
  go_loopw [5] (fun i wr => i = .int .i64 0 ∧ wr = w) (fun _ _ => 0)
  case atStart => exact ⟨rfl, rfl⟩
  case round =>
    obtain ⟨rfl, rfl⟩ := hrel
    go_wp2
    go_ret
    exact ⟨rfl, rfl⟩
set_option maxRecDepth 100000 in
set_option maxHeartbeats 1000000 in
theorem eqCs_nil (w : World) : Calls Try.prog 32 #[.slice none 0 0, .slice none 0 0] w fun e w' => e = .returned (.bool true) ∧ w' = w := by
  go_enter Try.func32, Try.ntmps32
  go_wp2
  go_loopw [5] (fun i wr => i = .int .i64 0 ∧ wr = w) (fun _ _ => 0)
  case atStart => exact ⟨rfl, rfl⟩
  case round =>
    obtain ⟨rfl, rfl⟩ := hrel
    go_wp2
    go_ret
    exact ⟨rfl, rfl⟩
set_option maxRecDepth 100000 in
set_option maxHeartbeats 1000000 in
theorem markSn_nil (w : World) (k : Int) : Calls Try.prog 55 #[.slice none 0 0, .int .i64 k] w fun e w' => e = .returned (.int .i64 k) ∧ w' = w := by
  go_enter Try.func55, Try.ntmps55
  go_wp2
  go_loopw [1, 5] (fun kv i wr => kv = .int .i64 k ∧ i = .int .i64 0 ∧ wr = w) (fun _ _ _ => 0)
  case atStart => exact ⟨rfl, rfl, rfl⟩
  case round =>
    obtain ⟨rfl, rfl, rfl⟩ := hrel
    go_wp2
    go_ret
    exact ⟨rfl, rfl⟩
set_option maxRecDepth 100000 in
set_option maxHeartbeats 1000000 in
theorem markCs_nil (w : World) (k : Int) : Calls Try.prog 35 #[.slice none 0 0, .int .i64 k] w fun e w' => e = .returned (.int .i64 k) ∧ w' = w := by
  go_enter Try.func35, Try.ntmps35
  go_wp2
  go_loopw [1, 5] (fun kv i wr => kv = .int .i64 k ∧ i = .int .i64 0 ∧ wr = w) (fun _ _ _ => 0)
  case atStart => exact ⟨rfl, rfl, rfl⟩
  case round =>
    obtain ⟨rfl, rfl, rfl⟩ := hrel
    go_wp2
    go_ret
    exact ⟨rfl, rfl⟩
set_option maxRecDepth 100000 in
set_option maxHeartbeats 1000000 in
theorem heldSn_nil (w : World) (k : Int) : Calls Try.prog 59 #[.slice none 0 0, .int .i64 k] w fun e w' => e = .returned (.int .i64 k) ∧ w' = w := by
  go_enter Try.func59, Try.ntmps59
  go_wp2
  go_loopw [1, 5] (fun kv i wr => kv = .int .i64 k ∧ i = .int .i64 0 ∧ wr = w) (fun _ _ _ => 0)
  case atStart => exact ⟨rfl, rfl, rfl⟩
  case round =>
    obtain ⟨rfl, rfl, rfl⟩ := hrel
    go_wp2
    go_ret
    exact ⟨rfl, rfl⟩
set_option maxRecDepth 100000 in
set_option maxHeartbeats 1000000 in
theorem heldCs_nil (w : World) (k : Int) : Calls Try.prog 38 #[.slice none 0 0, .int .i64 k] w fun e w' => e = .returned (.int .i64 k) ∧ w' = w := by
  go_enter Try.func38, Try.ntmps38
  go_wp2
  go_loopw [1, 5] (fun kv i wr => kv = .int .i64 k ∧ i = .int .i64 0 ∧ wr = w) (fun _ _ _ => 0)
  case atStart => exact ⟨rfl, rfl, rfl⟩
  case round =>
    obtain ⟨rfl, rfl, rfl⟩ := hrel
    go_wp2
    go_ret
    exact ⟨rfl, rfl⟩

set_option maxRecDepth 100000 in
set_option maxHeartbeats 2000000 in
theorem eqTape_nil (w : World) : Calls Try.prog 31 #[.agg #[.slice none 0 0, .slice none 0 0], .agg #[.slice none 0 0, .slice none 0 0]] w fun e w' => e = .returned (.bool true) ∧ w.grownBy w' none := by
  have HG := Lib.hid (show w.grownBy ((w.alloc (Obj.cells #[Value.slice none 0 0, .slice none 0 0] 38)).alloc (Obj.cells #[Value.slice none 0 0, .slice none 0 0] 38)) none from grown_alloc (grown_alloc (grown_refl _ _) _) _)
  have HT := Lib.hid (fun W => eqSn_nil W)
  go_enter Try.func31, Try.ntmps31
  go_wp2_with (go_at_call 51; (with_reducible refine (HT.out _).mono ?_); rintro e w' ⟨rfl, rfl⟩)
  go_ret
  exact ⟨rfl, HG.out⟩

set_option maxRecDepth 100000 in
set_option maxHeartbeats 2000000 in
theorem markTape_nil (w : World) (k : Int) : Calls Try.prog 34 #[.agg #[.slice none 0 0, .slice none 0 0], .int .i64 k] w fun e w' => e = .returned (.int .i64 k) ∧ w.grownBy w' none := by
  have HG := Lib.hid (show w.grownBy (w.alloc (Obj.cells #[Value.slice none 0 0, .slice none 0 0] 38)) none from grown_alloc (grown_refl _ _) _)
  have HT := Lib.hid (fun W => markSn_nil W k)
  go_enter Try.func34, Try.ntmps34
  go_wp2_with (go_at_call 55; (with_reducible refine (HT.out _).mono ?_); rintro e w' ⟨rfl, rfl⟩)
  go_ret
  exact ⟨rfl, HG.out⟩

set_option maxRecDepth 100000 in
set_option maxHeartbeats 2000000 in
theorem heldTape_nil (w : World) (k : Int) (hk : ¬ k < 0) : Calls Try.prog 37 #[.agg #[.slice none 0 0, .slice none 0 0], .int .i64 k] w fun e w' => e = .returned (.int .i64 k) ∧ w.grownBy w' none := by
  have HG := Lib.hid (show w.grownBy (w.alloc (Obj.cells #[Value.slice none 0 0, .slice none 0 0] 38)) none from grown_alloc (grown_refl _ _) _)
  have HT := Lib.hid (fun W => heldSn_nil W k)
  go_enter Try.func37, Try.ntmps37
  go_wp2_with (go_at_call 59; (with_reducible refine (HT.out _).mono ?_); rintro e w' ⟨rfl, rfl⟩)
  go_ret
  exact ⟨rfl, HG.out⟩

set_option maxRecDepth 100000 in
set_option maxHeartbeats 2000000 in
theorem sgate_any (w : World) (key : ByteArray) : Calls Try.prog 11 #[.string key] w fun e w' => e = .returned (.agg #[.int .i64 0, .string key, .slice none 0 0, .slice none 0 0, .slice none 0 0, .slice none 0 0, .slice none 0 0, .bool true]) ∧ w.grownBy w' none := by
  obtain ⟨W, hW⟩ : ∃ W, w.alloc (Obj.cells #[Value.int .i64 0, .string ⟨#[]⟩, .slice none 0 0, .slice none 0 0, .slice none 0 0, .slice none 0 0, .slice none 0 0, .bool false] 41) = W := ⟨_, rfl⟩
  have HB := Lib.hid (show Blk W w.heap.size 41 [.int .i64 0, .string ⟨#[]⟩, .slice none 0 0, .slice none 0 0, .slice none 0 0, .slice none 0 0, .slice none 0 0, .bool false] from by rw [← hW]; exact Blk.new w 41 _)
  have HG := Lib.hid (show w.grownBy W none from by rw [← hW]; exact grown_alloc (grown_refl _ _) _)
  have HW := Lib.hid hW
  have HC := Lib.hid (snew_any W key)
  clear hW
  go_enter Try.func11, Try.ntmps11
  go_wp2_with fail
  rw [HW.out]
  refine HC.out.mono ?_
  rintro e w1 ⟨rfl, hg1⟩
  have HB1 := Lib.hid (HB.out.kept hg1 (by simp))
  have HG1 := Lib.hid (grown_trans HG.out hg1)
  clear hg1 HC
  go_wp2_with (refine wpList_store_blk rfl 41 _ _ rfl w.heap.size (gcell key) [.int .i64 0, .string ⟨#[]⟩, .slice none 0 0, .slice none 0 0, .slice none 0 0, .slice none 0 0, .slice none 0 0, .bool false] 41 HB1.out infoGate rfl (fun v hv => by simp [gcell] at hv; rcases hv with rfl | rfl | rfl | rfl <;> rfl) rfl rfl ?_; intro w2 hb2 hg2)
  exact ⟨rfl, _, results_blk1 Try.results11 _ _ w.heap.size 41 _ _ hb2.out Try.underlying41 rfl infoGate rfl, rfl, grown_into HG1.out hg2.out (Nat.le_refl _)⟩

set_option maxRecDepth 100000 in
set_option maxHeartbeats 2000000 in
theorem igate_any (w : World) (key : ByteArray) (hs : key.size ≤ 1048576) : Calls Try.prog 12 #[.string key] w fun e w' => e = .returned (.agg #[.int .i64 0, .string key, .slice none 0 0, .slice none 0 0, .slice none 0 0, .slice none 0 0, .slice none 0 0, .bool true]) ∧ w.grownBy w' none := by
  obtain ⟨W, hW⟩ : ∃ W, w.alloc (Obj.cells #[Value.int .i64 0, .string ⟨#[]⟩, .slice none 0 0, .slice none 0 0, .slice none 0 0, .slice none 0 0, .slice none 0 0, .bool false] 41) = W := ⟨_, rfl⟩
  have HB := Lib.hid (show Blk W w.heap.size 41 [.int .i64 0, .string ⟨#[]⟩, .slice none 0 0, .slice none 0 0, .slice none 0 0, .slice none 0 0, .slice none 0 0, .bool false] from by rw [← hW]; exact Blk.new w 41 _)
  have HG := Lib.hid (show w.grownBy W none from by rw [← hW]; exact grown_alloc (grown_refl _ _) _)
  have HW := Lib.hid hW
  have HC := Lib.hid (inew_any W key hs)
  clear hW
  go_enter Try.func12, Try.ntmps12
  go_wp2_with fail
  rw [HW.out]
  refine HC.out.mono ?_
  rintro e w1 ⟨rfl, hg1⟩
  have HB1 := Lib.hid (HB.out.kept hg1 (by simp))
  have HG1 := Lib.hid (grown_trans HG.out hg1)
  clear hg1 HC
  go_wp2_with (refine wpList_store_blk rfl 41 _ _ rfl w.heap.size (gcell key) [.int .i64 0, .string ⟨#[]⟩, .slice none 0 0, .slice none 0 0, .slice none 0 0, .slice none 0 0, .slice none 0 0, .bool false] 41 HB1.out infoGate rfl (fun v hv => by simp [gcell] at hv; rcases hv with rfl | rfl | rfl | rfl <;> rfl) rfl rfl ?_; intro w2 hb2 hg2)
  exact ⟨rfl, _, results_blk1 Try.results12 _ _ w.heap.size 41 _ _ hb2.out Try.underlying41 rfl infoGate rfl, rfl, grown_into HG1.out hg2.out (Nat.le_refl _)⟩

theorem gcells (w : World) (b : Nat) (key : ByteArray) (h : Blk w b 41 (gcell key)) : w.cell? ⟨b, 0, none⟩ = some (.int .i64 0) ∧ w.cell? ⟨b, 1, none⟩ = some (.string key) ∧ w.cell? ⟨b, 2, none⟩ = some (.slice none 0 0) ∧ w.cell? ⟨b, 3, none⟩ = some (.slice none 0 0) ∧ w.cell? ⟨b, 4, none⟩ = some (.slice none 0 0) ∧ w.cell? ⟨b, 5, none⟩ = some (.slice none 0 0) ∧ w.cell? ⟨b, 6, none⟩ = some (.slice none 0 0) ∧ w.cell? ⟨b, 7, none⟩ = some (.bool true) := ⟨h.cell rfl, h.cell rfl, h.cell rfl, h.cell rfl, h.cell rfl, h.cell rfl, h.cell rfl, h.cell rfl⟩

set_option maxRecDepth 100000 in
set_option maxHeartbeats 4000000 in
theorem eqGate_new (w : World) (key : ByteArray) : Calls Try.prog 13 #[.agg #[.int .i64 0, .string key, .slice none 0 0, .slice none 0 0, .slice none 0 0, .slice none 0 0, .slice none 0 0, .bool true], .agg #[.int .i64 0, .string key, .slice none 0 0, .slice none 0 0, .slice none 0 0, .slice none 0 0, .slice none 0 0, .bool true]] w fun e w' => e = .returned (.bool true) ∧ w.grownBy w' none := by
  obtain ⟨a0, ha0⟩ : ∃ a0, ((w.alloc (Obj.cells #[Value.int .i64 0, .string key, .slice none 0 0, .slice none 0 0, .slice none 0 0, .slice none 0 0, .slice none 0 0, .bool true] 41)).alloc (Obj.cells #[Value.int .i64 0, .string key, .slice none 0 0, .slice none 0 0, .slice none 0 0, .slice none 0 0, .slice none 0 0, .bool true] 41)) = a0 := ⟨_, rfl⟩
  have HG := Lib.hid (show w.grownBy a0 none from by rw [← ha0]; exact grown_alloc (grown_alloc (grown_refl _ _) _) _)
  have HX := Lib.hid (show Blk a0 w.heap.size 41 (gcell key) from by rw [← ha0]; exact (Blk.new w 41 _).alloc _)
  have HY := Lib.hid (show Blk a0 (w.heap.size + 1) 41 (gcell key) from by
    rw [← ha0]
    have := Blk.new (w.alloc (Obj.cells #[Value.int .i64 0, .string key, .slice none 0 0, .slice none 0 0, .slice none 0 0, .slice none 0 0, .slice none 0 0, .bool true] 41)) 41 (gcell key)
    rw [show (w.alloc (Obj.cells #[Value.int .i64 0, .string key, .slice none 0 0, .slice none 0 0, .slice none 0 0, .slice none 0 0, .slice none 0 0, .bool true] 41)).heap.size = w.heap.size + 1 from by simp] at this
    exact this)
  have HW := Lib.hid ha0
  clear ha0
  have HE := Lib.hid (fun W => eqHouse_new W key)
  have HT := Lib.hid (fun W => eqTape_nil W)
  have HC := Lib.hid (fun W => eqCs_nil W)
  go_enter Try.func13, Try.ntmps13
  go_wp2_with fail
  rw [HW.out]
  refine (HE.out _).mono ?_
  rintro e w1 ⟨rfl, hg1⟩
  have HX1 := Lib.hid (HX.out.kept hg1 (by simp))
  have HY1 := Lib.hid (HY.out.kept hg1 (by simp))
  have HG1 := Lib.hid (grown_trans HG.out hg1)
  clear hg1 HX HY HG
  obtain ⟨X0, X1, X2, X3, X4, X5, X6, X7⟩ := gcells _ _ key HX1.out
  obtain ⟨Y0, Y1, Y2, Y3, Y4, Y5, Y6, Y7⟩ := gcells _ _ key HY1.out
  go_wp2_with fail
  refine (HT.out _).mono ?_
  rintro e w2 ⟨rfl, hg2⟩
  have HX2 := Lib.hid (HX1.out.kept hg2 (by simp))
  have HY2 := Lib.hid (HY1.out.kept hg2 (by simp))
  have HG2 := Lib.hid (grown_trans HG1.out hg2)
  clear hg2 HX1 HY1 HG1 X0 X1 X2 X3 X4 X5 X6 X7 Y0 Y1 Y2 Y3 Y4 Y5 Y6 Y7
  obtain ⟨X0, X1, X2, X3, X4, X5, X6, X7⟩ := gcells _ _ key HX2.out
  obtain ⟨Y0, Y1, Y2, Y3, Y4, Y5, Y6, Y7⟩ := gcells _ _ key HY2.out
  go_wp2_with (go_at_call 32; (with_reducible refine (HC.out _).mono ?_); rintro e w' ⟨rfl, rfl⟩)
  go_ret
  exact ⟨rfl, HG2.out⟩

set_option maxRecDepth 100000 in
set_option maxHeartbeats 4000000 in
theorem markGate_new (w : World) (key : ByteArray) (k : Int) : Calls Try.prog 14 #[.agg #[.int .i64 0, .string key, .slice none 0 0, .slice none 0 0, .slice none 0 0, .slice none 0 0, .slice none 0 0, .bool true], .int .i64 k] w fun e w' => e = .returned (.int .i64 k) ∧ w.grownBy w' none := by
  obtain ⟨a0, ha0⟩ : ∃ a0, w.alloc (Obj.cells #[Value.int .i64 0, .string key, .slice none 0 0, .slice none 0 0, .slice none 0 0, .slice none 0 0, .slice none 0 0, .bool true] 41) = a0 := ⟨_, rfl⟩
  have HG := Lib.hid (show w.grownBy a0 none from by rw [← ha0]; exact grown_alloc (grown_refl _ _) _)
  have HX := Lib.hid (show Blk a0 w.heap.size 41 (gcell key) from by rw [← ha0]; exact Blk.new w 41 _)
  have HW := Lib.hid ha0
  clear ha0
  have HE := Lib.hid (fun W => markHouse_new W key k)
  have HT := Lib.hid (fun W => markTape_nil W k)
  have HC := Lib.hid (fun W => markCs_nil W k)
  go_enter Try.func14, Try.ntmps14
  go_wp2_with fail
  rw [HW.out]
  refine (HE.out _).mono ?_
  rintro e w1 ⟨rfl, hg1⟩
  have HX1 := Lib.hid (HX.out.kept hg1 (by simp))
  have HG1 := Lib.hid (grown_trans HG.out hg1)
  clear hg1 HX HG
  obtain ⟨X0, X1, X2, X3, X4, X5, X6, X7⟩ := gcells _ _ key HX1.out
  go_wp2_with fail
  refine (HT.out _).mono ?_
  rintro e w2 ⟨rfl, hg2⟩
  have HX2 := Lib.hid (HX1.out.kept hg2 (by simp))
  have HG2 := Lib.hid (grown_trans HG1.out hg2)
  clear hg2 HX1 HG1 X0 X1 X2 X3 X4 X5 X6 X7
  obtain ⟨X0, X1, X2, X3, X4, X5, X6, X7⟩ := gcells _ _ key HX2.out
  go_wp2_with (go_at_call 35; (with_reducible refine (HC.out _).mono ?_); rintro e w' ⟨rfl, rfl⟩)
  go_ret
  exact ⟨rfl, HG2.out⟩

set_option maxRecDepth 100000 in
set_option maxHeartbeats 4000000 in
theorem heldGate_new (w : World) (key : ByteArray) (k : Int) (hk : ¬ k < 0) : Calls Try.prog 15 #[.agg #[.int .i64 0, .string key, .slice none 0 0, .slice none 0 0, .slice none 0 0, .slice none 0 0, .slice none 0 0, .bool true], .int .i64 k] w fun e w' => e = .returned (.int .i64 k) ∧ w.grownBy w' none := by
  obtain ⟨a0, ha0⟩ : ∃ a0, w.alloc (Obj.cells #[Value.int .i64 0, .string key, .slice none 0 0, .slice none 0 0, .slice none 0 0, .slice none 0 0, .slice none 0 0, .bool true] 41) = a0 := ⟨_, rfl⟩
  have HG := Lib.hid (show w.grownBy a0 none from by rw [← ha0]; exact grown_alloc (grown_refl _ _) _)
  have HX := Lib.hid (show Blk a0 w.heap.size 41 (gcell key) from by rw [← ha0]; exact Blk.new w 41 _)
  have HW := Lib.hid ha0
  clear ha0
  have HE := Lib.hid (fun W => heldHouse_new W key k hk)
  have HT := Lib.hid (fun W => heldTape_nil W k hk)
  have HC := Lib.hid (fun W => heldCs_nil W k)
  go_enter Try.func15, Try.ntmps15
  go_wp2_with fail
  rw [HW.out]
  refine (HE.out _).mono ?_
  rintro e w1 ⟨rfl, hg1⟩
  have HX1 := Lib.hid (HX.out.kept hg1 (by simp))
  have HG1 := Lib.hid (grown_trans HG.out hg1)
  clear hg1 HX HG
  obtain ⟨X0, X1, X2, X3, X4, X5, X6, X7⟩ := gcells _ _ key HX1.out
  go_wp2_with fail
  refine (HT.out _).mono ?_
  rintro e w2 ⟨rfl, hg2⟩
  have HX2 := Lib.hid (HX1.out.kept hg2 (by simp))
  have HG2 := Lib.hid (grown_trans HG1.out hg2)
  clear hg2 HX1 HG1 X0 X1 X2 X3 X4 X5 X6 X7
  obtain ⟨X0, X1, X2, X3, X4, X5, X6, X7⟩ := gcells _ _ key HX2.out
  go_wp2_with (go_at_call 38; (with_reducible refine (HC.out _).mono ?_); rintro e w' ⟨rfl, rfl⟩)
  go_ret
  exact ⟨rfl, HG2.out⟩
end Go.Proofs.Ytgidhfcnjboieaa
