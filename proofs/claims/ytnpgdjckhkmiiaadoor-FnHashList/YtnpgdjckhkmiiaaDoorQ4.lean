import Derived.Test.YtnpgdjckhkmiiaaDoorQ3
namespace Go.Proofs.YtnpgdjckhkmiiaaDoor
open Go.RowKit

/-- a list of texts that lies at an address -/
def Lies (w : World) (ao : Option Addr) (ss : List ByteArray) : Prop := ss.length = 0 ∨ ∃ ab o, ao = some ⟨ab, o, none⟩ ∧ ∀ j, j < ss.length → w.cell? ⟨ab, o + j, none⟩ = some (.string (ss.getD j ByteArray.empty))
theorem Lies.kept {w w' : World} {ao : Option Addr} {ss : List ByteArray} (h : Lies w ao ss) (hg : w.grownBy w' none) : Lies w' ao ss := by
  rcases h with h | ⟨ab, o, rfl, h⟩
  · exact .inl h
  · exact .inr ⟨ab, o, rfl, fun j hj => hg.cell (h j hj) (by simp)⟩
def sizes (ss : List ByteArray) : Nat := (ss.map ByteArray.size).sum
theorem sizes_take (ss : List ByteArray) (k : Nat) (hk : k < ss.length) : sizes (ss.take (k + 1)) = sizes (ss.take k) + (ss.getD k ByteArray.empty).size := by
  unfold sizes
  rw [List.take_succ_eq_append_getElem hk, List.map_append, List.sum_append]
  simp [hk]

set_option maxHeartbeats 1000000 in
theorem sz_walk (w : World) (ao : Option Addr) (cap : Nat) (ss : List ByteArray) (hl : Lies w ao ss) (hn : ss.length ≤ 9223372036854775807) (hs : ∀ j, (ss.getD j ByteArray.empty).size ≤ 9223372036854775807) :
    Calls Tryd.prog 19 #[.slice ao ss.length cap, .int .i64 1048576] w fun e w' => ∃ r : Int, e = .returned (.int .i64 r) ∧ (0 ≤ r → ss.length + sizes ss ≤ 1048576) ∧ w' = w := by
  have HL := Lib.hid hl
  have HS := Lib.hid hs
  clear hl hs
  by_cases hbig : (1048576 : Int) < ss.length
  · go_enter Tryd.func19, Tryd.ntmps19
    go_wp2
    go_ret
    exact ⟨-1, rfl, fun h => absurd h (by decide), rfl⟩
  have hb' : (ss.length : Int) ≤ 1048576 := by omega
  clear hbig
  go_enter Tryd.func19, Tryd.ntmps19
  go_wp2
  go_loopw [1, 5] (fun b i wr => ∃ k B : Nat, k ≤ ss.length ∧ i = .int .i64 k ∧ b = .int .i64 B ∧ Hid (B + ss.length + sizes (ss.take k) = 1048576) ∧ wr = w) (fun _ i _ => ss.length - (intOf i).toNat)
  case atStart => exact ⟨0, 1048576 - ss.length, Nat.zero_le _, rfl, by congr 1; omega, Lib.hid (by simp [sizes]; omega), rfl⟩
  case round =>
    obtain ⟨k, B, hk, rfl, rfl, HB, rfl⟩ := hrel
    have hB : B ≤ 1048576 := by have := HB.out; omega
    by_cases hlt : k < ss.length
    · obtain ⟨s, hse⟩ : ∃ s, s = ss.getD k ByteArray.empty := ⟨_, rfl⟩
      have hss := HS.out k
      rw [← hse] at hss
      rcases HL.out with h0 | ⟨ab, o, rfl, hc⟩
      · omega
      have d0 := hc k hlt
      rw [← hse] at d0
      have HST := Lib.hid (show sizes (ss.take (k + 1)) = sizes (ss.take k) + s.size from by rw [hse]; exact sizes_take ss k hlt)
      have hkI : (k : Int) < ss.length := by omega
      clear hc hse
      by_cases hneg : (B : Int) < s.size
      · go_wp2
        go_ret
        exact ⟨-1, rfl, fun h => absurd h (by decide), rfl⟩
      · have hpos : (s.size : Int) ≤ B := by omega
        go_wp2
        go_roundw
        case rel => exact ⟨k + 1, B - s.size, by omega, by go_num, by congr 1; omega, Lib.hid (by rw [HST.out]; have := HB.out; omega), by trivial⟩
        case measure => simp [intOf]; omega
    · obtain rfl : k = ss.length := by omega
      go_wp2
      go_ret
      refine ⟨B, rfl, fun _ => ?_, rfl⟩
      have := HB.out
      rw [List.take_length] at this
      omega

end Go.Proofs.YtnpgdjckhkmiiaaDoor
