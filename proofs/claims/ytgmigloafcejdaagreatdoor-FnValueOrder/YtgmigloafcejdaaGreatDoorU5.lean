/- The document's values, part by part: texts, and what is of no sort. -/
import Derived.Test.YtgmigloafcejdaaGreatDoorU3
namespace Go.Proofs.YtgmigloafcejdaaGreatDoor
open Go.RowKit

set_option maxRecDepth 100000 in
set_option maxHeartbeats 2000000 in
theorem plain_4 (W : World) (n : Int) (t : ByteArray) (ns : List ByteArray) (nk : Nat) (an ak : Option Addr) (cn ck : Nat) (hnl : ns.length ≤ 1048576) (ht : t.size ≤ 1048576) :
    Calls Tryz.prog 73 #[.agg #[.int .i64 4, .int .i64 n, .string t, .slice an ns.length cn, .slice ak nk ck]] W fun e w' => Says e (Plain 4 n t ns nk) ∧ W.grownBy w' none := by
  obtain ⟨p, hp⟩ : ∃ p : Prop, p = Plain 4 n t ns nk := ⟨_, rfl⟩
  rw [← hp]
  have HPP := Lib.hid hp
  clear hp
  by_cases hn0 : ns.length = 0
  case neg =>
    have hnI : (0 : Int) < ns.length := by omega
    have HD := Lib.hid (show Says (.returned (.bool false)) p from by rw [HPP.out]; exact .no (fun h => hn0 (h.1 (by decide))))
    go_enter Tryz.func73, Tryz.ntmps73
    go_wp2
    go_ret
    exact ⟨HD.out, grown_alloc (grown_refl _ _) _⟩
  have hnI : ¬ (0 : Int) < ns.length := by omega
  by_cases hz : n = 0
  case neg =>
    have hzb : (n == 0) = false := by rw [beq_eq_false_iff_ne]; exact hz
    have HD := Lib.hid (show Says (.returned (.bool false)) p from by rw [HPP.out]; exact .no (fun h => by rcases h.2.2 with h | h | h | h | h | h <;> first | (exact absurd h.1 (by decide)) | (exact hz h.2.1)))
    go_enter Tryz.func73, Tryz.ntmps73
    go_wp2
    go_ret
    exact ⟨HD.out, grown_alloc (grown_refl _ _) _⟩
  by_cases hk : nk = 0
  case neg =>
    have hkb : ((nk : Int) == 0) = false := by rw [beq_eq_false_iff_ne]; omega
    have HD := Lib.hid (show Says (.returned (.bool false)) p from by rw [HPP.out]; exact .no (fun h => by rcases h.2.2 with h | h | h | h | h | h <;> first | (exact absurd h.1 (by decide)) | (exact hk h.2.2.1)))
    go_enter Tryz.func73, Tryz.ntmps73
    go_wp2
    go_ret
    exact ⟨HD.out, grown_alloc (grown_refl _ _) _⟩
  have HTX := Lib.hid (fun X : World => textOk_any X t ht)
  go_enter Tryz.func73, Tryz.ntmps73
  go_wp2_with fail
  refine (HTX.out _).mono ?_
  rintro e w1 ⟨⟨b, rfl, hb⟩, hw⟩
  have HGA := Lib.hid (show W.grownBy w1 none from by rw [hw]; exact grown_alloc (grown_refl _ _) _)
  have HB := Lib.hid hb
  clear hw hb HTX
  cases b
  · have HD := Lib.hid (show Says (.returned (.bool false)) p from by rw [HPP.out]; exact .no (fun h => by rcases h.2.2 with h | h | h | h | h | h <;> first | (exact absurd h.1 (by decide)) | (have := HB.out.2 h.2.2.2; cases this)))
    go_wp2
    go_ret
    exact ⟨HD.out, HGA.out⟩
  · have HD := Lib.hid (show Says (.returned (.bool true)) p from by rw [HPP.out]; exact .yes ⟨fun _ => hn0, fun h => absurd rfl h, .inr (.inr (.inr (.inl ⟨rfl, hz, hk, HB.out.1 rfl⟩)))⟩)
    go_wp2
    go_ret
    exact ⟨HD.out, HGA.out⟩

set_option maxRecDepth 100000 in
set_option maxHeartbeats 2000000 in
theorem plain_x (W : World) (s n : Int) (t : ByteArray) (ns : List ByteArray) (nk : Nat) (an ak : Option Addr) (cn ck : Nat) (hnl : ns.length ≤ 1048576) (hs : ¬ (1 ≤ s ∧ s ≤ 7)) :
    Calls Tryz.prog 73 #[.agg #[.int .i64 s, .int .i64 n, .string t, .slice an ns.length cn, .slice ak nk ck]] W fun e w' => Says e (Plain s n t ns nk) ∧ W.grownBy w' none := by
  have HET := Lib.hid (empty_iff t)
  have HD := Lib.hid (show Says (.returned (.bool false)) (Plain s n t ns nk) from .no (fun h => by
    rcases h.2.2 with h | h | h | h | h | h
    · rcases h.1 with e | e <;> omega
    all_goals (have := h.1; omega)))
  have s1 : ¬ s = 1 := by omega
  have s2 : ¬ s = 2 := by omega
  have s3 : ¬ s = 3 := by omega
  have s4 : ¬ s = 4 := by omega
  have s5 : ¬ s = 5 := by omega
  have s6 : ¬ s = 6 := by omega
  have s7 : ¬ s = 7 := by omega
  obtain ⟨p, hp⟩ : ∃ p : Prop, p = Plain s n t ns nk := ⟨_, rfl⟩
  rw [← hp] at HD
  rw [← hp]
  clear hp hs
  by_cases hn0 : ns.length = 0
  case neg =>
    have hnI : (0 : Int) < ns.length := by omega
    go_enter Tryz.func73, Tryz.ntmps73
    go_wp2
    go_ret
    exact ⟨HD.out, grown_alloc (grown_refl _ _) _⟩
  have hnI : ¬ (0 : Int) < ns.length := by omega
  by_cases ht0 : t.size = 0
  case neg =>
    have hte : t.toList.isEmpty = false := by rw [HET.out]; exact decide_eq_false ht0
    go_enter Tryz.func73, Tryz.ntmps73
    go_wp2
    go_ret
    exact ⟨HD.out, grown_alloc (grown_refl _ _) _⟩
  have hte : t.toList.isEmpty = true := by rw [HET.out]; exact decide_eq_true ht0
  go_enter Tryz.func73, Tryz.ntmps73
  go_wp2
  go_ret
  exact ⟨HD.out, grown_alloc (grown_refl _ _) _⟩
end Go.Proofs.YtgmigloafcejdaaGreatDoor
