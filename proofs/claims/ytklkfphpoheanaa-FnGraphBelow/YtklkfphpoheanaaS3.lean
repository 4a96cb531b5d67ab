/- GraphBelow on both sides, at every argument. -/
import Derived.Test.YtklkfphpoheanaaS2
import Derived.Test.YtklkfphpoheanaaG5
namespace Go.Proofs.Ytklkfphpoheanaa
open Go.RowKit

/-- what is below one, at every argument -/
def outB (n : Int) (E : List (Int × Int)) (one : Int) : List Int := if OkG n E ∧ 0 ≤ one ∧ one < n then belowL (adj E) n.toNat one.toNat else []
theorem outB_yes (n : Int) (E : List (Int × Int)) (one : Int) (h : OkG n E ∧ 0 ≤ one ∧ one < n) : outB n E one = belowL (adj E) n.toNat one.toNat := if_pos h
theorem outB_no (n : Int) (E : List (Int × Int)) (one : Int) (h : ¬ (OkG n E ∧ 0 ≤ one ∧ one < n)) : outB n E one = [] := if_neg h
theorem outB_len (n : Int) (E : List (Int × Int)) (one : Int) : (outB n E one).length ≤ 16 := by
  unfold outB
  split
  · rename_i h
    have := filtL_len (fun j => (visit (adj E) n.toNat (n.toNat + 1) one.toNat 0).testBit j) n.toNat
    have h1 := h.1.2.1
    unfold belowL
    omega
  · simp

theorem GraphBelow_any (w : World) (n one : Int) (ao : Option Addr) (cap : Nat) (E : List (Int × Int)) (hE : NLies w ao E) (hl : E.length ≤ 1048576) :
    Calls Try.prog 7 #[.int .i64 n, .slice ao E.length cap, .int .i64 one] w fun e w' => ∃ v, e = .returned v ∧ Row w' w.heap.size v (ints (outB n E one)) ∧ w.grownBy w' none := by
  by_cases h : OkG n E ∧ 0 ≤ one ∧ one < n
  · obtain ⟨⟨a, b, c⟩, d, e⟩ := h
    rw [outB_yes n E one ⟨⟨a, b, c⟩, d, e⟩]
    obtain ⟨m, rfl⟩ := Int.eq_ofNat_of_zero_le a
    obtain ⟨p, rfl⟩ := Int.eq_ofNat_of_zero_le d
    exact GraphBelow_yes w m (by omega) ao cap E hE hl c p (by omega)
  · rw [outB_no n E one h]
    refine (GraphBelow_no w n one ao cap E hE hl (fun k => h ⟨⟨k.1, k.2.1, k.2.2.1⟩, k.2.2.2.1, k.2.2.2.2⟩)).mono ?_
    rintro e w' ⟨rfl, hg⟩
    exact ⟨_, rfl, Row.nil _ _, hg⟩

set_option maxRecDepth 100000 in
set_option maxHeartbeats 1000000 in
theorem specBelow_no (w : World) (n one : Int) (hn1 : -9223372036854775808 ≤ n) (hn2 : n ≤ 9223372036854775807) (ao : Option Addr) (cap : Nat) (E : List (Int × Int)) (hE : NLies w ao E) (hl : E.length ≤ 1048576) (hno : ¬ (OkG n E ∧ 0 ≤ one ∧ one < n)) :
    Calls Try.prog 9 #[.int .i64 n, .slice ao E.length cap, .int .i64 one] w fun e w' => ∃ v, e = .returned v ∧ Row w' w.heap.size v (ints []) ∧ w.grownBy w' none := by
  have HOK := Lib.hid (l5ok_any w n hn1 hn2 ao cap E hE hl)
  have HE0 := Lib.hid (show Row (w.alloc (.cells #[] 3)) w.heap.size (.slice (some ⟨w.heap.size, 0, none⟩) 0 0) (ints []) from Row.empty (Nat.le_refl _) (by simp))
  have HNO := Lib.hid hno
  clear hE hno
  by_cases ho : OkG n E
  · have HD := Lib.hid (decide_eq_true ho)
    rw [HD.out] at HOK
    have hn0 : 0 ≤ n := ho.1
    have hn16 : n ≤ 16 := ho.2.1
    have hd : decide (0 ≤ one ∧ one ≤ n - 1) = false := by
      simp only [decide_eq_false_iff_not]
      intro h
      exact HNO.out ⟨ho, h.1, by omega⟩
    clear ho HNO
    go_enter Try.func9, Try.ntmps9
    go_wp2_with (first | (go_at_call 27; refine HOK.out.mono ?_; rintro e w' ⟨rfl, hw⟩; have hw := hw.symm; subst hw) | (go_at_call 28; refine (in_any _ _ _ _).mono ?_; rw [hd]; rintro e w' ⟨rfl, hw⟩; have hw := hw.symm; subst hw))
    go_ret
    exact ⟨_, rfl, HE0.out, grown_alloc (grown_refl _ _) _⟩
  · have HD := Lib.hid (decide_eq_false ho)
    rw [HD.out] at HOK
    clear ho HNO
    go_enter Try.func9, Try.ntmps9
    go_wp2_with (first | (go_at_call 27; refine HOK.out.mono ?_; rintro e w' ⟨rfl, hw⟩; have hw := hw.symm; subst hw))
    go_ret
    exact ⟨_, rfl, HE0.out, grown_alloc (grown_refl _ _) _⟩

theorem specBelow_any (w : World) (n one : Int) (hn1 : -9223372036854775808 ≤ n) (hn2 : n ≤ 9223372036854775807) (ao : Option Addr) (cap : Nat) (E : List (Int × Int)) (hE : NLies w ao E) (hl : E.length ≤ 1048576) :
    Calls Try.prog 9 #[.int .i64 n, .slice ao E.length cap, .int .i64 one] w fun e w' => ∃ v, e = .returned v ∧ Row w' w.heap.size v (ints (outB n E one)) ∧ w.grownBy w' none := by
  by_cases h : OkG n E ∧ 0 ≤ one ∧ one < n
  · obtain ⟨⟨a, b, c⟩, d, e⟩ := h
    rw [outB_yes n E one ⟨⟨a, b, c⟩, d, e⟩]
    obtain ⟨m, rfl⟩ := Int.eq_ofNat_of_zero_le a
    obtain ⟨p, rfl⟩ := Int.eq_ofNat_of_zero_le d
    exact specBelow_yes w m (by omega) ao cap E hE hl c p (by omega)
  · rw [outB_no n E one h]
    exact specBelow_no w n one hn1 hn2 ao cap E hE hl h

end Go.Proofs.Ytklkfphpoheanaa
