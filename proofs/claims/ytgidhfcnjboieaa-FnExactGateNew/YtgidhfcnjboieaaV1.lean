/- FnExactHouseNew, walked: a house of a key, without tenants and entries. -/
import Derived.Test.YtgidhfcnjboieaaP3
import Derived.Test.YtgidhfcnjboieaaB0
namespace Go.Proofs.Ytgidhfcnjboieaa
open Go.RowKit

/-- the cells of a house of a key -/
def hcell (key : ByteArray) : List Value := [.int .i64 0, .string key, .slice none 0 0, .slice none 0 0]
theorem infoHouse : (Try.prog.info? 36).map (·.size) = some 4 := by kernel_rfl

set_option maxRecDepth 100000 in
set_option maxHeartbeats 1000000 in
theorem eqTs_nil (w : World) : Calls Try.prog 49 #[.slice none 0 0, .slice none 0 0] w fun e w' => e = .returned (.bool true) ∧ w' = w := by
  go_enter Try.func49, Try.ntmps49
  go_wp2
  go_loopw [5] (fun i wr => i = .int .i64 0 ∧ wr = w) (fun _ _ => 0)
  case atStart => exact ⟨rfl, rfl⟩
  case round =>
    obtain ⟨rfl, rfl⟩ := hrel
    go_wp2
    go_ret
    exact ⟨rfl, rfl⟩
set_option maxRecDepth 100000 in
set_option maxHeartbeats 1000000 in
theorem eqEs_nil (w : World) : Calls Try.prog 50 #[.slice none 0 0, .slice none 0 0] w fun e w' => e = .returned (.bool true) ∧ w' = w := by
  go_enter Try.func50, Try.ntmps50
  go_wp2
  go_loopw [5] (fun i wr => i = .int .i64 0 ∧ wr = w) (fun _ _ => 0)
  case atStart => exact ⟨rfl, rfl⟩
  case round =>
    obtain ⟨rfl, rfl⟩ := hrel
    go_wp2
    go_ret
    exact ⟨rfl, rfl⟩
set_option maxRecDepth 100000 in
set_option maxHeartbeats 1000000 in
theorem markTs_nil (w : World) (k : Int) : Calls Try.prog 53 #[.slice none 0 0, .int .i64 k] w fun e w' => e = .returned (.int .i64 k) ∧ w' = w := by
  go_enter Try.func53, Try.ntmps53
  go_wp2
  go_loopw [1, 5] (fun kv i wr => kv = .int .i64 k ∧ i = .int .i64 0 ∧ wr = w) (fun _ _ _ => 0)
  case atStart => exact ⟨rfl, rfl, rfl⟩
  case round =>
    obtain ⟨rfl, rfl, rfl⟩ := hrel
    go_wp2
    go_ret
    exact ⟨rfl, rfl⟩
set_option maxRecDepth 100000 in
set_option maxHeartbeats 1000000 in
theorem markEs_nil (w : World) (k : Int) : Calls Try.prog 54 #[.slice none 0 0, .int .i64 k] w fun e w' => e = .returned (.int .i64 k) ∧ w' = w := by
  go_enter Try.func54, Try.ntmps54
  go_wp2
  go_loopw [1, 5] (fun kv i wr => kv = .int .i64 k ∧ i = .int .i64 0 ∧ wr = w) (fun _ _ _ => 0)
  case atStart => exact ⟨rfl, rfl, rfl⟩
  case round =>
    obtain ⟨rfl, rfl, rfl⟩ := hrel
    go_wp2
    go_ret
    exact ⟨rfl, rfl⟩
set_option maxRecDepth 100000 in
set_option maxHeartbeats 1000000 in
theorem heldTs_nil (w : World) (k : Int) : Calls Try.prog 57 #[.slice none 0 0, .int .i64 k] w fun e w' => e = .returned (.int .i64 k) ∧ w' = w := by
  go_enter Try.func57, Try.ntmps57
  go_wp2
  go_loopw [1, 5] (fun kv i wr => kv = .int .i64 k ∧ i = .int .i64 0 ∧ wr = w) (fun _ _ _ => 0)
  case atStart => exact ⟨rfl, rfl, rfl⟩
  case round =>
    obtain ⟨rfl, rfl, rfl⟩ := hrel
    go_wp2
    go_ret
    exact ⟨rfl, rfl⟩
set_option maxRecDepth 100000 in
set_option maxHeartbeats 1000000 in
theorem heldEs_nil (w : World) (k : Int) : Calls Try.prog 58 #[.slice none 0 0, .int .i64 k] w fun e w' => e = .returned (.int .i64 k) ∧ w' = w := by
  go_enter Try.func58, Try.ntmps58
  go_wp2
  go_loopw [1, 5] (fun kv i wr => kv = .int .i64 k ∧ i = .int .i64 0 ∧ wr = w) (fun _ _ _ => 0)
  case atStart => exact ⟨rfl, rfl, rfl⟩
  case round =>
    obtain ⟨rfl, rfl, rfl⟩ := hrel
    go_wp2
    go_ret
    exact ⟨rfl, rfl⟩

set_option maxRecDepth 100000 in
set_option maxHeartbeats 2000000 in
theorem snew_any (w : World) (key : ByteArray) : Calls Try.prog 28 #[.string key] w fun e w' => e = .returned (.agg #[.int .i64 0, .string key, .slice none 0 0, .slice none 0 0]) ∧ w.grownBy w' none := by
  have HB := Lib.hid (show Blk (w.alloc (Obj.cells #[Value.int .i64 0, .string key, .slice none 0 0, .slice none 0 0] 36)) w.heap.size 36 (hcell key) from Blk.new w 36 _)
  go_enter Try.func28, Try.ntmps28
  go_wp2
  exact ⟨rfl, _, results_blk1 Try.results28 _ _ w.heap.size 36 _ _ HB.out Try.underlying36 rfl infoHouse rfl, rfl, grown_alloc (grown_refl _ _) _⟩

set_option maxRecDepth 100000 in
set_option maxHeartbeats 2000000 in
theorem inew_any (w : World) (key : ByteArray) (hs : key.size ≤ 1048576) : Calls Try.prog 29 #[.string key] w fun e w' => e = .returned (.agg #[.int .i64 0, .string key, .slice none 0 0, .slice none 0 0]) ∧ w.grownBy w' none := by
  obtain ⟨W, hW⟩ : ∃ W, w.alloc (Obj.cells #[Value.int .i64 0, .string ⟨#[]⟩, .slice none 0 0, .slice none 0 0] 36) = W := ⟨_, rfl⟩
  have HB := Lib.hid (show Blk W w.heap.size 36 [.int .i64 0, .string ⟨#[]⟩, .slice none 0 0, .slice none 0 0] from by rw [← hW]; exact Blk.new w 36 _)
  have HG := Lib.hid (show w.grownBy W none from by rw [← hW]; exact grown_alloc (grown_refl _ _) _)
  have HW := Lib.hid hW
  have HC := Lib.hid (clone_any W key hs)
  clear hW
  go_enter Try.func29, Try.ntmps29
  go_wp2_with fail
  rw [HW.out]
  refine HC.out.mono ?_
  rintro e w1 ⟨rfl, hg1⟩
  have HB1 := Lib.hid (HB.out.kept hg1 (by simp))
  have HG1 := Lib.hid (grown_trans HG.out hg1)
  clear hg1 HC
  go_wp2_with (refine wpList_store_blk rfl 36 _ _ rfl w.heap.size (hcell key) [.int .i64 0, .string ⟨#[]⟩, .slice none 0 0, .slice none 0 0] 36 HB1.out infoHouse rfl (fun v hv => by simp [hcell] at hv; rcases hv with rfl | rfl | rfl <;> rfl) rfl rfl ?_; intro w2 hb2 hg2)
  exact ⟨rfl, _, results_blk1 Try.results29 _ _ w.heap.size 36 _ _ hb2.out Try.underlying36 rfl infoHouse rfl, rfl, grown_into HG1.out hg2.out (Nat.le_refl _)⟩

set_option maxRecDepth 100000 in
set_option maxHeartbeats 2000000 in
theorem eqHouse_new (w : World) (key : ByteArray) : Calls Try.prog 30 #[.agg #[.int .i64 0, .string key, .slice none 0 0, .slice none 0 0], .agg #[.int .i64 0, .string key, .slice none 0 0, .slice none 0 0]] w fun e w' => e = .returned (.bool true) ∧ w.grownBy w' none := by
  have HG := Lib.hid (show w.grownBy ((w.alloc (Obj.cells #[Value.int .i64 0, .string key, .slice none 0 0, .slice none 0 0] 36)).alloc (Obj.cells #[Value.int .i64 0, .string key, .slice none 0 0, .slice none 0 0] 36)) none from grown_alloc (grown_alloc (grown_refl _ _) _) _)
  have HT := Lib.hid (fun W => eqTs_nil W)
  have HE := Lib.hid (fun W => eqEs_nil W)
  go_enter Try.func30, Try.ntmps30
  go_wp2_with (first | (go_at_call 49; (with_reducible refine (HT.out _).mono ?_); rintro e w' ⟨rfl, rfl⟩) | (go_at_call 50; (with_reducible refine (HE.out _).mono ?_); rintro e w' ⟨rfl, rfl⟩))
  go_ret
  exact ⟨rfl, HG.out⟩

set_option maxRecDepth 100000 in
set_option maxHeartbeats 2000000 in
theorem markHouse_new (w : World) (key : ByteArray) (k : Int) : Calls Try.prog 33 #[.agg #[.int .i64 0, .string key, .slice none 0 0, .slice none 0 0], .int .i64 k] w fun e w' => e = .returned (.int .i64 k) ∧ w.grownBy w' none := by
  have HG := Lib.hid (show w.grownBy (w.alloc (Obj.cells #[Value.int .i64 0, .string key, .slice none 0 0, .slice none 0 0] 36)) none from grown_alloc (grown_refl _ _) _)
  have HT := Lib.hid (fun W => markTs_nil W k)
  have HE := Lib.hid (fun W => markEs_nil W k)
  go_enter Try.func33, Try.ntmps33
  go_wp2_with (first | (go_at_call 53; (with_reducible refine (HT.out _).mono ?_); rintro e w' ⟨rfl, rfl⟩) | (go_at_call 54; (with_reducible refine (HE.out _).mono ?_); rintro e w' ⟨rfl, rfl⟩))
  go_ret
  exact ⟨rfl, HG.out⟩

set_option maxRecDepth 100000 in
set_option maxHeartbeats 2000000 in
theorem heldHouse_new (w : World) (key : ByteArray) (k : Int) (hk : ¬ k < 0) : Calls Try.prog 36 #[.agg #[.int .i64 0, .string key, .slice none 0 0, .slice none 0 0], .int .i64 k] w fun e w' => e = .returned (.int .i64 k) ∧ w.grownBy w' none := by
  have HG := Lib.hid (show w.grownBy (w.alloc (Obj.cells #[Value.int .i64 0, .string key, .slice none 0 0, .slice none 0 0] 36)) none from grown_alloc (grown_refl _ _) _)
  have HT := Lib.hid (fun W => heldTs_nil W k)
  have HE := Lib.hid (fun W => heldEs_nil W k)
  go_enter Try.func36, Try.ntmps36
  go_wp2_with (first | (go_at_call 57; (with_reducible refine (HT.out _).mono ?_); rintro e w' ⟨rfl, rfl⟩) | (go_at_call 58; (with_reducible refine (HE.out _).mono ?_); rintro e w' ⟨rfl, rfl⟩))
  go_ret
  exact ⟨rfl, HG.out⟩
end Go.Proofs.Ytgidhfcnjboieaa
