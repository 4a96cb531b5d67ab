/- impl.GraphBelow, where it tells nothing. -/
import Derived.Test.YtklkfphpoheanaaG4
namespace Go.Proofs.Ytklkfphpoheanaa
open Go.RowKit

set_option maxRecDepth 100000 in
set_option maxHeartbeats 1000000 in
theorem GraphBelow_no (w : World) (n one : Int) (ao : Option Addr) (cap : Nat) (E : List (Int × Int)) (hE : NLies w ao E) (hl : E.length ≤ 1048576) (hno : ¬ (0 ≤ n ∧ n ≤ 16 ∧ (∀ e ∈ E, In16 n e) ∧ 0 ≤ one ∧ one < n)) :
    Calls Try.prog 7 #[.int .i64 n, .slice ao E.length cap, .int .i64 one] w fun e w' => e = .returned (.slice none 0 0) ∧ w.grownBy w' none := by
  have hO : Calls Try.prog 23 #[.int .i64 n, .slice ao E.length cap] w fun e w' => ∃ A b, e = .returned (.tuple #[.agg (gCells n A).toArray, .bool b]) ∧ A.length = 16 ∧ (b = true → ¬ (0 ≤ one ∧ one < n)) ∧ w.grownBy w' none := by
    by_cases h : 0 ≤ n ∧ n ≤ 16
    · refine (graphOf_yes w n h.1 h.2 ao cap E hE hl).mono ?_
      rintro e w' ⟨A, b, rfl, h16, hb, -, hg⟩
      exact ⟨A, b, rfl, h16, fun e h2 => hno ⟨h.1, h.2, hb.1 e, h2.1, h2.2⟩, hg⟩
    · refine (graphOf_no w n (by omega) ao E.length cap).mono ?_
      rintro e w' ⟨rfl, hg⟩
      exact ⟨_, false, rfl, rfl, (fun h => by cases h), hg⟩
  have HO := Lib.hid hO
  clear hE hno hO
  go_enter Try.func7, Try.ntmps7
  go_wp2_with fail
  refine HO.out.mono ?_
  rintro e w1 ⟨A, b, rfl, hA16, hb, hg1⟩
  have HG1 := Lib.hid hg1
  have hs1 := hg1.size
  have HI := Lib.hid (show (Try.prog.info? 52).map (·.size) = some (gCells n A).length from by rw [gCells_len, hA16]; exact info52)
  have HLL := Lib.hid (show (gCells 0 (List.replicate 16 0)).length = (gCells n A).length from by rw [gCells_len, gCells_len, hA16]; rfl)
  have HB0 := Lib.hid (Blk.new w1 52 (gCells 0 (List.replicate 16 0)))
  clear hg1 HO hA16
  cases b
  · clear hb
    go_wp2_with (first | ((with_reducible refine wpList_store_blk ?_ 52 (.tmp 7) (.tmp 16) ?_ w1.heap.size (gCells n A) (gCells 0 (List.replicate 16 0)) 52 ?_ ?_ ?_ ?_ ?_ ?_ ?_); exact rfl; exact rfl; exact HB0.out; exact HI.out; exact HLL.out; exact gCells_one _ _; exact rfl; exact rfl; intro w2 HB2 HG2))
    go_ret
    exact ⟨rfl, grown_into (grown_alloc HG1.out _) HG2.out hs1⟩
  · have hd : decide (0 ≤ one ∧ one < n) = false := by simpa using hb rfl
    clear hb
    go_wp2_with (first | ((with_reducible refine wpList_store_blk ?_ 52 (.tmp 7) (.tmp 16) ?_ w1.heap.size (gCells n A) (gCells 0 (List.replicate 16 0)) 52 ?_ ?_ ?_ ?_ ?_ ?_ ?_); exact rfl; exact rfl; exact HB0.out; exact HI.out; exact HLL.out; exact gCells_one _ _; exact rfl; exact rfl; intro w2 HB2 HG2) | ((with_reducible refine wpList_load_blk_if 52 (.tmp 7) ?_ ?_ w1.heap.size (gCells n A) 52 ?_ _ Try.underlying52 ?_ ?_ ?_ ?_); exact rfl; exact rfl; (first | exact HB2.out | exact HB2.out.alloc _); exact rfl; exact HI.out; exact rfl) | (go_at_call 24; refine (there_any _ n A _).mono ?_; rintro e w' ⟨rfl, rfl⟩))
    go_ret
    exact ⟨rfl, grown_alloc (grown_into (grown_alloc HG1.out _) HG2.out hs1) _⟩

end Go.Proofs.Ytklkfphpoheanaa
