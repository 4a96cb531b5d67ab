/- The words of requests: kinds, and names that may be empty. -/
import Derived.Test.YtecekbhkombnnaaDoorYQP
import Derived.Test.YtecekbhkombnnaaDoorN5
import Derived.Test.YtecekbhkombnnaaDoorP4
namespace Go.Proofs.YtecekbhkombnnaaDoor
open Go.RowKit

def kindsL : List ByteArray := [⟨#[]⟩, ⟨#[116, 105, 99, 107]⟩, ⟨#[116, 101, 110, 97, 110, 116]⟩, ⟨#[117, 115, 101, 114]⟩, ⟨#[115, 112, 97, 99, 101]⟩, ⟨#[99, 111, 110, 102]⟩, ⟨#[112, 111, 108, 105, 99, 121]⟩, ⟨#[112, 108, 97, 110]⟩, ⟨#[97, 112, 112, 114, 111, 118, 101]⟩, ⟨#[99, 97, 110, 99, 101, 108]⟩, ⟨#[115, 116, 101, 112]⟩]
def kindW (m : Nat) : ByteArray := kindsL.getD m ⟨#[]⟩
/-- a name as it is written -/
def wordT (s : ByteArray) : ByteArray := if s.size = 0 then ⟨#[45]⟩ else s
theorem wordT_size (s : ByteArray) (h : NameE s) : (wordT s).size ≤ 7 := by
  unfold wordT
  rcases h with h | h
  · rw [if_pos h]; decide
  · have h1 := h.1
    have h2 := h.2.1
    rw [if_neg (by omega)]
    exact h2
def kindsObj : Obj := Obj.cells #[Value.string ⟨#[]⟩, .string ⟨#[116, 105, 99, 107]⟩, .string ⟨#[116, 101, 110, 97, 110, 116]⟩, .string ⟨#[117, 115, 101, 114]⟩, .string ⟨#[115, 112, 97, 99, 101]⟩, .string ⟨#[99, 111, 110, 102]⟩, .string ⟨#[112, 111, 108, 105, 99, 121]⟩, .string ⟨#[112, 108, 97, 110]⟩, .string ⟨#[97, 112, 112, 114, 111, 118, 101]⟩, .string ⟨#[99, 97, 110, 99, 101, 108]⟩, .string ⟨#[115, 116, 101, 112]⟩] 9

set_option maxRecDepth 100000 in
set_option maxHeartbeats 1000000 in
theorem kinds_call (W : World) : Calls Tryd.prog 24 #[] W fun e w' => e = .returned (.slice (some ⟨W.heap.size, 0, none⟩) 11 11) ∧ w' = W.alloc kindsObj := by
  go_enter Tryd.func24, Tryd.ntmps24
  go_wp2
  go_ret
  exact ⟨rfl, rfl⟩
theorem kinds_cell (W : World) (m : Nat) (h : m < 11) : (W.alloc kindsObj).cell? ⟨W.heap.size, m, none⟩ = some (.string (kindW m)) := by
  refine (show Blk (W.alloc kindsObj) W.heap.size 9 (strs kindsL) from Blk.new W 9 (strs kindsL)).cell ?_
  have h4 : m = 0 ∨ m = 1 ∨ m = 2 ∨ m = 3 ∨ m = 4 ∨ m = 5 ∨ m = 6 ∨ m = 7 ∨ m = 8 ∨ m = 9 ∨ m = 10 := by omega
  rcases h4 with rfl | rfl | rfl | rfl | rfl | rfl | rfl | rfl | rfl | rfl | rfl <;> rfl
theorem kindW_size (m : Nat) (h : m < 11) : (kindW m).size ≤ 7 := by
  have h4 : m = 0 ∨ m = 1 ∨ m = 2 ∨ m = 3 ∨ m = 4 ∨ m = 5 ∨ m = 6 ∨ m = 7 ∨ m = 8 ∨ m = 9 ∨ m = 10 := by omega
  rcases h4 with rfl | rfl | rfl | rfl | rfl | rfl | rfl | rfl | rfl | rfl | rfl <;> decide

set_option maxHeartbeats 1000000 in
theorem word_any (w : World) (s : ByteArray) : Calls Tryd.prog 43 #[.string s] w fun e w' => e = .returned (.string (wordT s)) ∧ w' = w := by
  have HET := Lib.hid (empty_iff s)
  by_cases h0 : s.size = 0
  · have hte : s.toList.isEmpty = true := by rw [HET.out]; exact decide_eq_true h0
    have HD := Lib.hid (show wordT s = ⟨#[45]⟩ from by unfold wordT; rw [if_pos h0])
    go_enter Tryd.func43, Tryd.ntmps43
    go_wp2
    go_ret
    exact ⟨by rw [HD.out]; rfl, rfl⟩
  · have hte : s.toList.isEmpty = false := by rw [HET.out]; exact decide_eq_false h0
    have HD := Lib.hid (show wordT s = s from by unfold wordT; rw [if_neg h0])
    go_enter Tryd.func43, Tryd.ntmps43
    go_wp2
    go_ret
    exact ⟨by rw [HD.out]; rfl, rfl⟩

set_option maxHeartbeats 1000000 in
theorem iword_any (w : World) (s : ByteArray) : Calls Tryd.prog 50 #[.string s] w fun e w' => e = .returned (.string (wordT s)) ∧ w' = w := by
  have HET := Lib.hid (empty_iff s)
  by_cases h0 : s.size = 0
  · have hte : s.toList.isEmpty = true := by rw [HET.out]; exact decide_eq_true h0
    have HD := Lib.hid (show wordT s = ⟨#[45]⟩ from by unfold wordT; rw [if_pos h0])
    go_enter Tryd.func50, Tryd.ntmps50
    go_wp2
    go_ret
    exact ⟨by rw [HD.out]; rfl, rfl⟩
  · have hte : s.toList.isEmpty = false := by rw [HET.out]; exact decide_eq_false h0
    have HD := Lib.hid (show wordT s = s from by unfold wordT; rw [if_neg h0])
    go_enter Tryd.func50, Tryd.ntmps50
    go_wp2
    go_ret
    exact ⟨by rw [HD.out]; rfl, rfl⟩
end Go.Proofs.YtecekbhkombnnaaDoor
