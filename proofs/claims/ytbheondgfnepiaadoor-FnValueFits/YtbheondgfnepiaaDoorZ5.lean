/- A text many times. -/
import Derived.Test.YtbheondgfnepiaaDoorZ4
namespace Go.Proofs.YtbheondgfnepiaaDoor
open Go.RowKit

set_option maxRecDepth 100000 in
set_option maxHeartbeats 1000000 in
theorem many_any (w : World) (s0 : ByteArray) (n0 : Nat) (hs : s0.size * n0 ≤ 100) (hs1 : s0.size ≤ 100) (hn : n0 ≤ 100) :
    Calls Tryd.prog 54 #[.string s0, .int .i64 (n0 : Int)] w fun e w' => ∃ t : ByteArray, e = .returned (.string t) ∧ t.size ≤ 100 ∧ w' = w := by
  go_enter Tryd.func54, Tryd.ntmps54
  go_wp2
  go_loopw [0, 1, 5] (fun s n o wr => ∃ (S O : ByteArray) (N : Nat), s = .string S ∧ n = .int .i64 (N : Int) ∧ o = .string O ∧ N ≤ 100 ∧ S.size ≤ 200 ∧ Hid (O.size + S.size * N ≤ 100) ∧ wr = w) (fun _ n _ _ => (intOf n).toNat)
  case atStart => exact ⟨s0, ⟨#[]⟩, n0, rfl, rfl, rfl, hn, by omega, Lib.hid (by show 0 + s0.size * n0 ≤ 100; omega), rfl⟩
  case round =>
    obtain ⟨S, O, N, rfl, rfl, rfl, hN, hS, HO, rfl⟩ := hrel
    have hO : O.size ≤ 100 := by have := HO.out; omega
    by_cases h0 : N = 0
    · subst h0
      go_wp2
      go_ret
      exact ⟨O, rfl, hO, rfl⟩
    have hpos : (0 : Int) < (N : Int) := by omega
    obtain ⟨q, hq⟩ : ∃ q, q = N / 2 := ⟨_, rfl⟩
    have e1 : (N : Int).tdiv 2 = (q : Int) := by rw [Int.tdiv_eq_ediv_of_nonneg (by omega), hq]; simp
    have hqN : q < N := by omega
    have ew : IntKind.i64.wrap (q : Int) = (q : Int) := by rw [IntKind.wrap_i64]; omega
    have hSS : (S ++ S).size = S.size + S.size := by simp
    have hlim : ¬ 9223372036854775807 < S.size + S.size := by omega
    have hOS : (O ++ S).size = O.size + S.size := by simp
    have hlim2 : ¬ 9223372036854775807 < O.size + S.size := by omega
    have HP := Lib.hid (show S.size * (2 * q) = 2 * (S.size * q) from by rw [Nat.mul_left_comm])
    have HP2 := Lib.hid (show (S.size + S.size) * q = 2 * (S.size * q) from by rw [Nat.add_mul]; omega)
    have hSle : S.size ≤ 100 := by
      have h1 := HO.out
      have : S.size * 1 ≤ S.size * N := Nat.mul_le_mul_left _ (by omega)
      omega
    generalize hX : S ++ S = SS at hSS
    generalize hY : O ++ S = OS at hOS
    by_cases hodd : N % 2 = 1
    · have e2 : (N : Int).tmod 2 = 1 := by rw [Int.tmod_eq_emod_of_nonneg (by omega)]; omega
      have HO2 := Lib.hid (show OS.size + SS.size * q ≤ 100 from by
        have h1 := HO.out
        rw [show N = 2 * q + 1 from by omega, Nat.mul_add, Nat.mul_one, HP.out] at h1
        rw [hSS, HP2.out]
        omega)
      clear hq hodd HP HP2
      go_wp2
      go_roundw
      case rel => exact ⟨SS, OS, q, by rw [← hX], by first | rfl | go_num, by rw [← hY], by omega, by omega, HO2, by first | trivial | rfl⟩
      case measure => simp [intOf]; omega
    · have e2 : (N : Int).tmod 2 = 0 := by rw [Int.tmod_eq_emod_of_nonneg (by omega)]; omega
      have HO2 := Lib.hid (show O.size + SS.size * q ≤ 100 from by
        have h1 := HO.out
        rw [show N = 2 * q from by omega, HP.out] at h1
        rw [hSS, HP2.out]
        omega)
      clear hq hodd HP HP2
      go_wp2
      go_roundw
      case rel => exact ⟨SS, O, q, by rw [← hX], by first | rfl | go_num, by first | trivial | rfl, by omega, by omega, HO2, by first | trivial | rfl⟩
      case measure => simp [intOf]; omega

theorem Blk.text {w : World} {b : Nat} {t : TypeId} {L : List ByteArray} (h : Blk w b t (L.map Value.string)) (j : Nat) (hj : j < L.length) : w.cell? ⟨b, j, none⟩ = some (.string (L.getD j ByteArray.empty)) := h.cell (by simp [hj])
theorem info26 : (Tryd.prog.info? 26).map (fun i => (i.zero, i.size, i.bytes)) = some (some (.agg #[.int .i64 0, .int .i64 0, .string ⟨#[]⟩, .slice none 0 0, .slice none 0 0]), 5, 80) := by kernel_rfl
theorem info9z : (Tryd.prog.info? 9).map (fun i => (i.zero, i.size, i.bytes)) = some (some (.string ⟨#[]⟩), 1, 16) := by kernel_rfl

end Go.Proofs.YtbheondgfnepiaaDoor
