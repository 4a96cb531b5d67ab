/- Itoa of what is not below 0. -/
import Derived.Test.YtfdhopkjblbkmaaDoorXQ1
import Derived.Test.YtfdhopkjblbkmaaDoorXZ1
import Derived.Lib.AppendIntMem
namespace Go.Proofs.YtfdhopkjblbkmaaDoor
open Go.RowKit

/-- the table of the library's that Itoa reads -/
def Pow (w : World) : Prop := Lib.TabIs Tryd.prog w "internal/strconv.uint64pow10" .u64 Lib.pow10Tab
theorem Pow.grown {w w' : World} (h : Pow w) (hg : w.grownBy w' none) : Pow w' := Lib.tabBelow_of_tabIs h w' (below_of_grown hg (by simp))
theorem itoa_nat (n : Nat) (hn : n ≤ 4611686018427387903) (w : World) (h : Pow w) : Calls Tryd.prog 43 #[.int .i64 (n : Int)] w fun e w' => e = .returned (.string (decS n)) ∧ w.grownBy w' none := by
  refine (itoa_any n (by omega) (by omega) w h).mono ?_
  rintro e w' ⟨rfl, k, os, rfl⟩
  have e : Lib.itoa (n : Int) = Lib.decDigits n := by unfold Lib.itoa; rw [if_neg (by omega)]; rfl
  rw [e]
  exact ⟨rfl, grown_of_below (Lib.below_grow w.heap.size w (Nat.le_refl _) k os) none⟩

end Go.Proofs.YtfdhopkjblbkmaaDoor
