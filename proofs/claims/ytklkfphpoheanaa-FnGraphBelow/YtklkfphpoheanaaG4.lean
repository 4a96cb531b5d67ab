/- impl.GraphBelow. -/
import Derived.Test.YtklkfphpoheanaaG3
import Derived.Test.YtklkfphpoheanaaR1
namespace Go.Proofs.Ytklkfphpoheanaa
open Go.RowKit

theorem info3 : (Try.prog.info? 3).map (fun i => (i.zero, i.size, i.bytes)) = some (some (.int .i64 0), 1, 8) := by kernel_rfl
theorem adj_in (n : Nat) (hn : n ≤ 16) (E : List (Int × Int)) (h : ∀ e ∈ E, In16 n e) : ∀ a ∈ adj E, a < 65536 := adj_lt E (fun e he => by have := h e he; unfold In16 at this; omega)
def belowL (A : List Nat) (n one : Nat) : List Int := filtL (fun j => (visit A n (n + 1) one 0).testBit j) n

set_option maxRecDepth 100000 in
set_option maxHeartbeats 1000000 in
theorem GraphBelow_yes (w : World) (n : Nat) (hn : n ≤ 16) (ao : Option Addr) (cap : Nat) (E : List (Int × Int)) (hE : NLies w ao E) (hl : E.length ≤ 1048576) (hin : ∀ e ∈ E, In16 n e) (one : Nat) (h1 : one < n) :
    Calls Try.prog 7 #[.int .i64 (n : Int), .slice ao E.length cap, .int .i64 (one : Int)] w fun e w' => ∃ v, e = .returned v ∧ Row w' w.heap.size v (ints (belowL (adj E) n one)) ∧ w.grownBy w' none := by
  have HO := Lib.hid (graphOf_yes w n (by omega) (by omega) ao cap E hE hl)
  have HAL := Lib.hid (adj_in n hn E hin)
  have HIN := Lib.hid hin
  obtain ⟨i3, hi3, hz0, hz1, hz2⟩ := info_parts info3
  have HI := Lib.hid (show (Try.prog.info? 52).map (·.size) = some (gCells n (adj E)).length from by rw [gCells_len, adj_len]; exact info52)
  have HL := Lib.hid (adj_len E)
  have HLL := Lib.hid (show (gCells 0 (List.replicate 16 0)).length = (gCells n (adj E)).length from by rw [gCells_len, gCells_len, adj_len]; rfl)
  unfold belowL
  obtain ⟨A, hAe⟩ : ∃ A, A = adj E := ⟨_, rfl⟩
  rw [← hAe] at HAL HI HL HLL HO ⊢
  have hB65 := visit_lt A n hn (n + 1) one 0 (by decide)
  obtain ⟨B, hB⟩ : ∃ B, B = visit A n (n + 1) one 0 := ⟨_, rfl⟩
  have HBE := Lib.hid hB
  rw [← hB] at hB65 ⊢
  clear hB hAe
  have hd : decide (0 ≤ (one : Int) ∧ (one : Int) < (n : Int)) = true := by simp; omega
  clear hE hin
  go_enter Try.func7, Try.ntmps7
  go_wp2_with fail
  refine HO.out.mono ?_
  rintro e w1 ⟨A', b, rfl, hA16, hb, hA, hg1⟩
  obtain rfl : b = true := hb.2 HIN.out
  have hAA := (hA rfl).symm
  subst hAA
  have HG1 := Lib.hid hg1
  have hs1 := hg1.size
  have HB0 := Lib.hid (Blk.new w1 52 (gCells 0 (List.replicate 16 0)))
  clear hg1 hA hb HO hA16
  go_wp2_with (first | ((with_reducible refine wpList_store_blk ?_ 52 (.tmp 7) (.tmp 16) ?_ w1.heap.size (gCells n A) (gCells 0 (List.replicate 16 0)) 52 ?_ ?_ ?_ ?_ ?_ ?_ ?_); exact rfl; exact rfl; exact HB0.out; exact HI.out; exact HLL.out; exact gCells_one _ _; exact rfl; exact rfl; intro w2 HB2 HG2) | ((with_reducible refine wpList_load_blk_if 52 (.tmp 7) ?_ ?_ w1.heap.size (gCells n A) 52 ?_ _ Try.underlying52 ?_ ?_ ?_ ?_); exact rfl; exact rfl; (first | exact HB2.out | exact HB2.out.alloc _); exact rfl; exact HI.out; exact rfl) | (go_at_call 24; refine (there_any _ n A _).mono ?_; rintro e w' ⟨rfl, rfl⟩) | (go_at_call 25; refine (below_any _ n A hn HL.out HAL.out one h1).mono ?_; rintro e w4 ⟨rfl, hg4⟩; rw [← HBE.out]; have HG4 := Lib.hid (show w.grownBy w4 none from grown_trans (grown_alloc (grown_into (grown_alloc HG1.out _) HG2.out hs1) _) hg4); clear hg4))
  go_loopw [10, 30] (fun v i wr => ∃ k : Nat, k ≤ n ∧ i = .int .i64 k ∧ Row wr w.heap.size v (ints (filtL (fun j => B.testBit j) k)) ∧ w.grownBy wr none) (fun _ i _ => n - (intOf i).toNat)
  case atStart => exact ⟨0, Nat.zero_le _, rfl, Row.nil _ _, HG4.out⟩
  case round =>
    obtain ⟨k, hk, rfl, hrow, hg⟩ := hrel
    have HR := Lib.hid hrow
    have HG := Lib.hid hg
    have hsz := hg.size
    have hfl := filtL_len (fun j => B.testBit j) k
    clear hrow hg
    by_cases hlt : k < n
    · have hkI : (k : Int) < n := by omega
      have hk16 : k < 16 := by omega
      have HS := Lib.hid (filtL_succ (fun j => B.testBit j) k)
      cases htb : B.testBit k
      · go_wp2_with (first | (go_at_call 26; refine (has_any _ B k hB65 hk16).mono ?_; rw [htb]; rintro e w' ⟨rfl, rfl⟩))
        refine ⟨⟨k + 1, by omega, by go_num, ?_, HG.out⟩, by simp [intOf]; omega⟩
        rw [HS.out]
        simp only [htb, Bool.false_eq_true, if_false, List.append_nil]
        exact HR.out
      · have HLN := Lib.hid (ints_len (filtL (fun j => B.testBit j) k))
        have HHS := Lib.hid (show ints (filtL (fun j => B.testBit j) (k + 1)) = ints (filtL (fun j => B.testBit j) k) ++ ints [(k : Int)] from by rw [HS.out, if_pos htb, ints_app])
        generalize filtL (fun j => B.testBit j) k = F at HR HLN HHS hfl
        clear HS
        go_wp2_with (first | (go_at_call 26; refine (has_any _ B k hB65 hk16).mono ?_; rw [htb]; rintro e w' ⟨rfl, rfl⟩) | (at_builtin; refine wpList_append_row rfl _ _ 26 rfl 3 i3 (.int .i64 0) 8 Try.underlying26 hi3 hz0 hz1 hz2 rfl w.heap.size _ (ints F) rfl (HR.out.alloc _) ⟨_, 0, none⟩ 1 1 (ints [(k : Int)]) rfl rfl (news_new _ 3 (ints [(k : Int)])) (ints_one _) (by rw [HLN.out]; unfold maxLen; omega) (by rw [HLN.out]; omega) (by simp; omega) ?_; intro v1 w5 hrow1 hg5))
        go_roundw
        case rel =>
          refine ⟨k + 1, by omega, by go_num, ?_, grown_own (grown_alloc HG.out _) hg5.out (fun q hq => (HR.out.lt q hq).1)⟩
          rw [HHS.out]
          exact hrow1.out
        case measure => simp [intOf]; omega
    · obtain rfl : k = n := by omega
      go_wp2
      go_ret
      exact ⟨_, rfl, HR.out, HG.out⟩

end Go.Proofs.Ytklkfphpoheanaa
