/- Small functions of the graphs: bits of a set, who is there. -/
import Derived.Test.YtklkfphpoheanaaDoorR0
import Derived.Test.YtklkfphpoheanaaDoorRows
namespace Go.Proofs.YtklkfphpoheanaaDoor
open Go.RowKit

theorem in_any (w : World) (n lo hi : Int) : Calls Tryd.prog 40 #[.int .i64 n, .int .i64 lo, .int .i64 hi] w fun e w' => e = .returned (.bool (decide (lo ≤ n ∧ n ≤ hi))) ∧ w' = w := by
  by_cases h1 : lo ≤ n
  · go_enter Tryd.func40, Tryd.ntmps40
    go_wp2
    go_ret
    exact ⟨by simp [h1], rfl⟩
  · have h1' : n < lo := by omega
    go_enter Tryd.func40, Tryd.ntmps40
    go_wp2
    go_ret
    exact ⟨by simp; omega, rfl⟩

theorem has_bits (s k : Nat) (hs : s < 65536) : (bits .and .u16 ((s : Int) / 2 ^ k) 1 == 1) = s.testBit k := by
  have e1 : ((s : Int) / 2 ^ k) = ((s / 2 ^ k : Nat) : Int) := by push_cast; rfl
  have e2 : s / 2 ^ k < 65536 := Nat.lt_of_le_of_lt (Nat.div_le_self _ _) hs
  rw [e1, show (1 : Int) = ((1 : Nat) : Int) from rfl, u16_and_nat _ _ e2 (by decide), Nat.and_one_is_mod, Nat.testBit_eq_decide_div_mod_eq, Bool.eq_iff_iff]
  simp
  omega
theorem has_any (w : World) (s k : Nat) (hs : s < 65536) (hk : k < 16) : Calls Tryd.prog 38 #[.int .u16 (s : Int), .int .i64 (k : Int)] w fun e w' => e = .returned (.bool (s.testBit k)) ∧ w' = w := by
  have HB := Lib.hid (has_bits s k hs)
  go_enter Tryd.func38, Tryd.ntmps38
  go_wp2
  go_ret
  refine ⟨?_, rfl⟩
  rw [← HB.out]
  rfl

theorem two_lt (k : Nat) (hk : k < 16) : 2 ^ k < 65536 := Nat.pow_lt_pow_right (a := 2) (by decide) hk
theorem with_bits (s k : Nat) (hs : s < 65536) (hk : k < 16) : bits .or .u16 (s : Int) (IntKind.u16.wrap (2 ^ k)) = ((s ||| 2 ^ k : Nat) : Int) := by
  have e : IntKind.u16.wrap (2 ^ k) = ((2 ^ k : Nat) : Int) := by
    have := two_lt k hk
    rw [IntKind.wrap_u16]
    have e2 : ((2 : Int) ^ k) = ((2 ^ k : Nat) : Int) := by push_cast; rfl
    rw [e2]
    exact Int.emod_eq_of_lt (Int.natCast_nonneg _) (Int.ofNat_lt.2 this)
  rw [e, u16_or_nat _ _ hs (two_lt k hk)]
theorem with_lt (s k : Nat) (hs : s < 65536) (hk : k < 16) : s ||| 2 ^ k < 65536 := Nat.or_lt_two_pow (n := 16) hs (two_lt k hk)
theorem with_any (w : World) (s k : Nat) (hs : s < 65536) (hk : k < 16) : Calls Tryd.prog 34 #[.int .u16 (s : Int), .int .i64 (k : Int)] w fun e w' => e = .returned (.int .u16 ((s ||| 2 ^ k : Nat) : Int)) ∧ w' = w := by
  have HB := Lib.hid (with_bits s k hs hk)
  go_enter Tryd.func34, Tryd.ntmps34
  go_wp2
  go_ret
  refine ⟨?_, rfl⟩
  rw [← HB.out]
  rfl

/-- the cells of a graph -/
def gCells (n : Int) (A : List Nat) : List Value := .int .i64 n :: A.map fun (a : Nat) => Value.int .u16 (a : Int)
theorem there_any (w : World) (n : Int) (A : List Nat) (k : Int) : Calls Tryd.prog 33 #[.agg (gCells n A).toArray, .int .i64 k] w fun e w' => e = .returned (.bool (decide (0 ≤ k ∧ k < n))) ∧ w' = w.alloc (.cells (gCells n A).toArray 49) := by
  have hb := Blk.new w 49 (gCells n A)
  have c0 : (w.alloc (.cells (gCells n A).toArray 49)).cell? ⟨w.heap.size, 0, none⟩ = some (.int .i64 n) := hb.cell rfl
  clear hb
  generalize (gCells n A).toArray = C at c0 ⊢
  by_cases h1 : 0 ≤ k
  · go_enter Tryd.func33, Tryd.ntmps33
    go_wp2
    go_ret
    exact ⟨by simp [h1], rfl⟩
  · have h1' : k < 0 := by omega
    go_enter Tryd.func33, Tryd.ntmps33
    go_wp2
    go_ret
    exact ⟨by simp; omega, rfl⟩

end Go.Proofs.YtklkfphpoheanaaDoor
