/- The document's values, part by part: all sorts but objects. -/
import Derived.Test.YtgmigloafcejdaaGreatDoorU2
import Derived.Laws.Strings
namespace Go.Proofs.YtgmigloafcejdaaGreatDoor
open Go.RowKit

/-- names, ascending -/
def NamesOk (ns : List ByteArray) : Prop := ∀ i (h : i < ns.length), NameOk ns[i] ∧ (0 < i → Op.bytesLess (ns.getD (i - 1) ByteArray.empty).toList ns[i].toList = true)
def PlainS (s n : Int) (t : ByteArray) (ns : List ByteArray) (nk : Nat) : Prop :=
  ((s = 1 ∨ s = 7) ∧ n = 0 ∧ nk = 0) ∨ (s = 2 ∧ InR 0 n 1 ∧ nk = 0) ∨ (s = 3 ∧ InR (-999999) n 999999 ∧ nk = 0) ∨ (s = 4 ∧ n = 0 ∧ nk = 0 ∧ TextOk t) ∨ (s = 5 ∧ n = 0 ∧ nk ≤ 5) ∨ (s = 6 ∧ n = 0 ∧ nk = ns.length ∧ nk ≤ 5 ∧ NamesOk ns)
/-- what a value has of its own -/
def Plain (s n : Int) (t : ByteArray) (ns : List ByteArray) (nk : Nat) : Prop := (s ≠ 6 → ns.length = 0) ∧ (s ≠ 4 → t.size = 0) ∧ PlainS s n t ns nk

theorem empty_iff (t : ByteArray) : t.toList.isEmpty = decide (t.size = 0) := by
  rw [Bool.eq_iff_iff, List.isEmpty_iff, decide_eq_true_eq, ByteArray.toList_eq, ← List.length_eq_zero_iff, Array.length_toList]
  exact Iff.rfl

set_option maxRecDepth 100000 in
set_option maxHeartbeats 2000000 in
theorem plain_1 (W : World) (n : Int) (t : ByteArray) (ns : List ByteArray) (nk : Nat) (an ak : Option Addr) (cn ck : Nat) (hnl : ns.length ≤ 1048576) :
    Calls Tryz.prog 73 #[.agg #[.int .i64 1, .int .i64 n, .string t, .slice an ns.length cn, .slice ak nk ck]] W fun e w' => Says e (Plain 1 n t ns nk) ∧ W.grownBy w' none := by
  have HET := Lib.hid (empty_iff t)
  obtain ⟨p, hp⟩ : ∃ p : Prop, p = Plain 1 n t ns nk := ⟨_, rfl⟩
  rw [← hp]
  have HPP := Lib.hid hp
  clear hp
  by_cases hn0 : ns.length = 0
  case neg =>
    have hnI : (0 : Int) < ns.length := by omega
    have HD := Lib.hid (show Says (.returned (.bool false)) p from by rw [HPP.out]; exact .no (fun h => hn0 (h.1 (by decide))))
    go_enter Tryz.func73, Tryz.ntmps73
    go_wp2
    go_ret
    exact ⟨HD.out, grown_alloc (grown_refl _ _) _⟩
  have hnI : ¬ (0 : Int) < ns.length := by omega
  by_cases ht0 : t.size = 0
  case neg =>
    have hte : t.toList.isEmpty = false := by rw [HET.out]; exact decide_eq_false ht0
    have HD := Lib.hid (show Says (.returned (.bool false)) p from by rw [HPP.out]; exact .no (fun h => ht0 (h.2.1 (by decide))))
    go_enter Tryz.func73, Tryz.ntmps73
    go_wp2
    go_ret
    exact ⟨HD.out, grown_alloc (grown_refl _ _) _⟩
  have hte : t.toList.isEmpty = true := by rw [HET.out]; exact decide_eq_true ht0
  by_cases hz : n = 0
  case neg =>
    have hzb : (n == 0) = false := by rw [beq_eq_false_iff_ne]; exact hz
    have HD := Lib.hid (show Says (.returned (.bool false)) p from by rw [HPP.out]; exact .no (fun h => by rcases h.2.2 with h | h | h | h | h | h <;> first | (exact absurd h.1 (by decide)) | (exact hz h.2.1)))
    go_enter Tryz.func73, Tryz.ntmps73
    go_wp2
    go_ret
    exact ⟨HD.out, grown_alloc (grown_refl _ _) _⟩
  by_cases hk : nk = 0
  case neg =>
    have hkb : ((nk : Int) == 0) = false := by rw [beq_eq_false_iff_ne]; omega
    have HD := Lib.hid (show Says (.returned (.bool false)) p from by rw [HPP.out]; exact .no (fun h => by rcases h.2.2 with h | h | h | h | h | h <;> first | (exact absurd h.1 (by decide)) | (exact hk h.2.2)))
    go_enter Tryz.func73, Tryz.ntmps73
    go_wp2
    go_ret
    exact ⟨HD.out, grown_alloc (grown_refl _ _) _⟩
  have HD := Lib.hid (show Says (.returned (.bool true)) p from by rw [HPP.out]; exact .yes (⟨fun _ => hn0, fun _ => ht0, .inl ⟨by decide, hz, hk⟩⟩))
  go_enter Tryz.func73, Tryz.ntmps73
  go_wp2
  go_ret
  exact ⟨HD.out, grown_alloc (grown_refl _ _) _⟩

set_option maxRecDepth 100000 in
set_option maxHeartbeats 2000000 in
theorem plain_7 (W : World) (n : Int) (t : ByteArray) (ns : List ByteArray) (nk : Nat) (an ak : Option Addr) (cn ck : Nat) (hnl : ns.length ≤ 1048576) :
    Calls Tryz.prog 73 #[.agg #[.int .i64 7, .int .i64 n, .string t, .slice an ns.length cn, .slice ak nk ck]] W fun e w' => Says e (Plain 7 n t ns nk) ∧ W.grownBy w' none := by
  have HET := Lib.hid (empty_iff t)
  obtain ⟨p, hp⟩ : ∃ p : Prop, p = Plain 7 n t ns nk := ⟨_, rfl⟩
  rw [← hp]
  have HPP := Lib.hid hp
  clear hp
  by_cases hn0 : ns.length = 0
  case neg =>
    have hnI : (0 : Int) < ns.length := by omega
    have HD := Lib.hid (show Says (.returned (.bool false)) p from by rw [HPP.out]; exact .no (fun h => hn0 (h.1 (by decide))))
    go_enter Tryz.func73, Tryz.ntmps73
    go_wp2
    go_ret
    exact ⟨HD.out, grown_alloc (grown_refl _ _) _⟩
  have hnI : ¬ (0 : Int) < ns.length := by omega
  by_cases ht0 : t.size = 0
  case neg =>
    have hte : t.toList.isEmpty = false := by rw [HET.out]; exact decide_eq_false ht0
    have HD := Lib.hid (show Says (.returned (.bool false)) p from by rw [HPP.out]; exact .no (fun h => ht0 (h.2.1 (by decide))))
    go_enter Tryz.func73, Tryz.ntmps73
    go_wp2
    go_ret
    exact ⟨HD.out, grown_alloc (grown_refl _ _) _⟩
  have hte : t.toList.isEmpty = true := by rw [HET.out]; exact decide_eq_true ht0
  by_cases hz : n = 0
  case neg =>
    have hzb : (n == 0) = false := by rw [beq_eq_false_iff_ne]; exact hz
    have HD := Lib.hid (show Says (.returned (.bool false)) p from by rw [HPP.out]; exact .no (fun h => by rcases h.2.2 with h | h | h | h | h | h <;> first | (exact absurd h.1 (by decide)) | (exact hz h.2.1)))
    go_enter Tryz.func73, Tryz.ntmps73
    go_wp2
    go_ret
    exact ⟨HD.out, grown_alloc (grown_refl _ _) _⟩
  by_cases hk : nk = 0
  case neg =>
    have hkb : ((nk : Int) == 0) = false := by rw [beq_eq_false_iff_ne]; omega
    have HD := Lib.hid (show Says (.returned (.bool false)) p from by rw [HPP.out]; exact .no (fun h => by rcases h.2.2 with h | h | h | h | h | h <;> first | (exact absurd h.1 (by decide)) | (exact hk h.2.2)))
    go_enter Tryz.func73, Tryz.ntmps73
    go_wp2
    go_ret
    exact ⟨HD.out, grown_alloc (grown_refl _ _) _⟩
  have HD := Lib.hid (show Says (.returned (.bool true)) p from by rw [HPP.out]; exact .yes (⟨fun _ => hn0, fun _ => ht0, .inl ⟨by decide, hz, hk⟩⟩))
  go_enter Tryz.func73, Tryz.ntmps73
  go_wp2
  go_ret
  exact ⟨HD.out, grown_alloc (grown_refl _ _) _⟩

set_option maxRecDepth 100000 in
set_option maxHeartbeats 2000000 in
theorem plain_5 (W : World) (n : Int) (t : ByteArray) (ns : List ByteArray) (nk : Nat) (an ak : Option Addr) (cn ck : Nat) (hnl : ns.length ≤ 1048576) (hnk : nk ≤ 1048576) :
    Calls Tryz.prog 73 #[.agg #[.int .i64 5, .int .i64 n, .string t, .slice an ns.length cn, .slice ak nk ck]] W fun e w' => Says e (Plain 5 n t ns nk) ∧ W.grownBy w' none := by
  have HET := Lib.hid (empty_iff t)
  obtain ⟨p, hp⟩ : ∃ p : Prop, p = Plain 5 n t ns nk := ⟨_, rfl⟩
  rw [← hp]
  have HPP := Lib.hid hp
  clear hp
  by_cases hn0 : ns.length = 0
  case neg =>
    have hnI : (0 : Int) < ns.length := by omega
    have HD := Lib.hid (show Says (.returned (.bool false)) p from by rw [HPP.out]; exact .no (fun h => hn0 (h.1 (by decide))))
    go_enter Tryz.func73, Tryz.ntmps73
    go_wp2
    go_ret
    exact ⟨HD.out, grown_alloc (grown_refl _ _) _⟩
  have hnI : ¬ (0 : Int) < ns.length := by omega
  by_cases ht0 : t.size = 0
  case neg =>
    have hte : t.toList.isEmpty = false := by rw [HET.out]; exact decide_eq_false ht0
    have HD := Lib.hid (show Says (.returned (.bool false)) p from by rw [HPP.out]; exact .no (fun h => ht0 (h.2.1 (by decide))))
    go_enter Tryz.func73, Tryz.ntmps73
    go_wp2
    go_ret
    exact ⟨HD.out, grown_alloc (grown_refl _ _) _⟩
  have hte : t.toList.isEmpty = true := by rw [HET.out]; exact decide_eq_true ht0
  by_cases hz : n = 0
  case neg =>
    have hzb : (n == 0) = false := by rw [beq_eq_false_iff_ne]; exact hz
    have HD := Lib.hid (show Says (.returned (.bool false)) p from by rw [HPP.out]; exact .no (fun h => by rcases h.2.2 with h | h | h | h | h | h <;> first | (exact absurd h.1 (by decide)) | (exact hz h.2.1)))
    go_enter Tryz.func73, Tryz.ntmps73
    go_wp2
    go_ret
    exact ⟨HD.out, grown_alloc (grown_refl _ _) _⟩
  by_cases hk : (nk : Int) ≤ 5
  case neg =>
    have HD := Lib.hid (show Says (.returned (.bool false)) p from by rw [HPP.out]; exact .no (fun h => by rcases h.2.2 with h | h | h | h | h | h <;> first | (exact absurd h.1 (by decide)) | (exact hk (by have := h.2.2; omega))))
    go_enter Tryz.func73, Tryz.ntmps73
    go_wp2
    go_ret
    exact ⟨HD.out, grown_alloc (grown_refl _ _) _⟩
  have HD := Lib.hid (show Says (.returned (.bool true)) p from by rw [HPP.out]; exact .yes (⟨fun _ => hn0, fun _ => ht0, .inr (.inr (.inr (.inr (.inl ⟨rfl, hz, by omega⟩))))⟩))
  go_enter Tryz.func73, Tryz.ntmps73
  go_wp2
  go_ret
  exact ⟨HD.out, grown_alloc (grown_refl _ _) _⟩

set_option maxRecDepth 100000 in
set_option maxHeartbeats 2000000 in
theorem plain_2 (W : World) (n : Int) (t : ByteArray) (ns : List ByteArray) (nk : Nat) (an ak : Option Addr) (cn ck : Nat) (hnl : ns.length ≤ 1048576) :
    Calls Tryz.prog 73 #[.agg #[.int .i64 2, .int .i64 n, .string t, .slice an ns.length cn, .slice ak nk ck]] W fun e w' => Says e (Plain 2 n t ns nk) ∧ W.grownBy w' none := by
  have HET := Lib.hid (empty_iff t)
  obtain ⟨p, hp⟩ : ∃ p : Prop, p = Plain 2 n t ns nk := ⟨_, rfl⟩
  rw [← hp]
  have HPP := Lib.hid hp
  clear hp
  by_cases hn0 : ns.length = 0
  case neg =>
    have hnI : (0 : Int) < ns.length := by omega
    have HD := Lib.hid (show Says (.returned (.bool false)) p from by rw [HPP.out]; exact .no (fun h => hn0 (h.1 (by decide))))
    go_enter Tryz.func73, Tryz.ntmps73
    go_wp2
    go_ret
    exact ⟨HD.out, grown_alloc (grown_refl _ _) _⟩
  have hnI : ¬ (0 : Int) < ns.length := by omega
  by_cases ht0 : t.size = 0
  case neg =>
    have hte : t.toList.isEmpty = false := by rw [HET.out]; exact decide_eq_false ht0
    have HD := Lib.hid (show Says (.returned (.bool false)) p from by rw [HPP.out]; exact .no (fun h => ht0 (h.2.1 (by decide))))
    go_enter Tryz.func73, Tryz.ntmps73
    go_wp2
    go_ret
    exact ⟨HD.out, grown_alloc (grown_refl _ _) _⟩
  have hte : t.toList.isEmpty = true := by rw [HET.out]; exact decide_eq_true ht0
  have HIN := Lib.hid (fun X : World => l1in_any X n 0 1)
  go_enter Tryz.func73, Tryz.ntmps73
  go_wp2_with fail
  refine (HIN.out _).mono ?_
  rintro e w1 ⟨⟨b, rfl, hb⟩, hw⟩
  have HGA := Lib.hid (show W.grownBy w1 none from by rw [hw]; exact grown_alloc (grown_refl _ _) _)
  have HB := Lib.hid hb
  clear hw hb HIN
  cases b
  · have HN := Lib.hid (show ¬ InR 0 n 1 from fun h => by have := HB.out.2 h; cases this)
    have HD := Lib.hid (show Says (.returned (.bool false)) p from by rw [HPP.out]; exact .no (fun h => by rcases h.2.2 with h | h | h | h | h | h <;> first | (exact absurd h.1 (by decide)) | (exact HN.out h.2.1)))
    go_wp2
    go_ret
    exact ⟨HD.out, HGA.out⟩
  by_cases hk : nk = 0
  · have hkb : ((nk : Int) == 0) = true := by simp [hk]
    have HD := Lib.hid (show Says (.returned (.bool true)) p from by rw [HPP.out]; exact .yes (⟨fun _ => hn0, fun _ => ht0, .inr (.inl ⟨rfl, HB.out.1 rfl, hk⟩)⟩))
    go_wp2
    go_ret
    exact ⟨HD.out, HGA.out⟩
  · have hkb : ((nk : Int) == 0) = false := by rw [beq_eq_false_iff_ne]; omega
    have HD := Lib.hid (show Says (.returned (.bool false)) p from by rw [HPP.out]; exact .no (fun h => by rcases h.2.2 with h | h | h | h | h | h <;> first | (exact absurd h.1 (by decide)) | (exact hk h.2.2)))
    go_wp2
    go_ret
    exact ⟨HD.out, HGA.out⟩

set_option maxRecDepth 100000 in
set_option maxHeartbeats 2000000 in
theorem plain_3 (W : World) (n : Int) (t : ByteArray) (ns : List ByteArray) (nk : Nat) (an ak : Option Addr) (cn ck : Nat) (hnl : ns.length ≤ 1048576) :
    Calls Tryz.prog 73 #[.agg #[.int .i64 3, .int .i64 n, .string t, .slice an ns.length cn, .slice ak nk ck]] W fun e w' => Says e (Plain 3 n t ns nk) ∧ W.grownBy w' none := by
  have HET := Lib.hid (empty_iff t)
  obtain ⟨p, hp⟩ : ∃ p : Prop, p = Plain 3 n t ns nk := ⟨_, rfl⟩
  rw [← hp]
  have HPP := Lib.hid hp
  clear hp
  by_cases hn0 : ns.length = 0
  case neg =>
    have hnI : (0 : Int) < ns.length := by omega
    have HD := Lib.hid (show Says (.returned (.bool false)) p from by rw [HPP.out]; exact .no (fun h => hn0 (h.1 (by decide))))
    go_enter Tryz.func73, Tryz.ntmps73
    go_wp2
    go_ret
    exact ⟨HD.out, grown_alloc (grown_refl _ _) _⟩
  have hnI : ¬ (0 : Int) < ns.length := by omega
  by_cases ht0 : t.size = 0
  case neg =>
    have hte : t.toList.isEmpty = false := by rw [HET.out]; exact decide_eq_false ht0
    have HD := Lib.hid (show Says (.returned (.bool false)) p from by rw [HPP.out]; exact .no (fun h => ht0 (h.2.1 (by decide))))
    go_enter Tryz.func73, Tryz.ntmps73
    go_wp2
    go_ret
    exact ⟨HD.out, grown_alloc (grown_refl _ _) _⟩
  have hte : t.toList.isEmpty = true := by rw [HET.out]; exact decide_eq_true ht0
  have HIN := Lib.hid (fun X : World => l1in_any X n (-999999) 999999)
  go_enter Tryz.func73, Tryz.ntmps73
  go_wp2_with fail
  refine (HIN.out _).mono ?_
  rintro e w1 ⟨⟨b, rfl, hb⟩, hw⟩
  have HGA := Lib.hid (show W.grownBy w1 none from by rw [hw]; exact grown_alloc (grown_refl _ _) _)
  have HB := Lib.hid hb
  clear hw hb HIN
  cases b
  · have HN := Lib.hid (show ¬ InR (-999999) n 999999 from fun h => by have := HB.out.2 h; cases this)
    have HD := Lib.hid (show Says (.returned (.bool false)) p from by rw [HPP.out]; exact .no (fun h => by rcases h.2.2 with h | h | h | h | h | h <;> first | (exact absurd h.1 (by decide)) | (exact HN.out h.2.1)))
    go_wp2
    go_ret
    exact ⟨HD.out, HGA.out⟩
  by_cases hk : nk = 0
  · have hkb : ((nk : Int) == 0) = true := by simp [hk]
    have HD := Lib.hid (show Says (.returned (.bool true)) p from by rw [HPP.out]; exact .yes (⟨fun _ => hn0, fun _ => ht0, .inr (.inr (.inl ⟨rfl, HB.out.1 rfl, hk⟩))⟩))
    go_wp2
    go_ret
    exact ⟨HD.out, HGA.out⟩
  · have hkb : ((nk : Int) == 0) = false := by rw [beq_eq_false_iff_ne]; omega
    have HD := Lib.hid (show Says (.returned (.bool false)) p from by rw [HPP.out]; exact .no (fun h => by rcases h.2.2 with h | h | h | h | h | h <;> first | (exact absurd h.1 (by decide)) | (exact hk h.2.2)))
    go_wp2
    go_ret
    exact ⟨HD.out, HGA.out⟩
end Go.Proofs.YtgmigloafcejdaaGreatDoor
