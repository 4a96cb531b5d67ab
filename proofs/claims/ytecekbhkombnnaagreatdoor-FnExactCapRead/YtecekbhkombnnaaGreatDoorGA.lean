/- A text cut at a byte into all its pieces, by the document. -/
import Derived.Test.YtecekbhkombnnaaGreatDoorDJ
import Derived.Test.YtecekbhkombnnaaGreatDoorGZ
namespace Go.Proofs.YtecekbhkombnnaaGreatDoor
open Go.RowKit

set_option maxRecDepth 100000 in
set_option maxHeartbeats 8000000 in
theorem scut_any (w : World) (s : ByteArray) (c : UInt8) (cN : Nat) (hc : c.toNat = cN) (hs : s.size ≤ 1048576) :
    Calls Tryz.prog 43 #[.string s, .int .u8 (cN : Int)] w fun e w' => (∃ (L : List ByteArray) (an : Option Addr) (cn : Nat), e = .returned (.slice an L.length cn) ∧ Row w' w.heap.size (.slice an L.length cn) (strs L) ∧ L ≠ [] ∧ L.length ≤ s.size + 1 ∧ (∀ p ∈ L, Free c p) ∧ joinB c L = s) ∧ w.grownBy w' none := by
  have HC := Lib.hid hc
  clear hc
  obtain ⟨i9, hi9, hz0, hz1, hz2⟩ := info_parts infoStr0
  go_enter Tryz.func43, Tryz.ntmps43
  go_wp2
  go_loopw [5, 6, 7] (fun v a i wr => ∃ (P : List ByteArray) (a0 k : Nat), a0 ≤ k ∧ k ≤ s.size ∧ a = .int .i64 a0 ∧ i = .int .i64 k ∧ Hid (Row wr w.heap.size v (strs P)) ∧ Hid (∀ p ∈ P, Free c p) ∧ Hid (preB c P = s.extract 0 a0) ∧ Hid (∀ j (hj : j < s.size), a0 ≤ j → j < k → s[j].toNat ≠ cN) ∧ P.length ≤ k ∧ w.grownBy wr none) (fun _ _ i _ => s.size - (intOf i).toNat)
  case atStart => exact ⟨[], 0, 0, Nat.le_refl _, Nat.zero_le _, rfl, rfl, Lib.hid (Row.empty0 (Nat.le_refl _) (by simp)), Lib.hid (fun p h => by cases h), Lib.hid (bytes_ext (by rw [extract_list]; rfl)), Lib.hid (fun j _ _ h => absurd h (Nat.not_lt_zero _)), Nat.zero_le _, grown_alloc (grown_refl _ _) _⟩
  case round =>
    obtain ⟨P, a0, k, ha, hk, rfl, rfl, HR, HF, HPR, HNO, hPl, hg⟩ := hrel
    have HG := Lib.hid hg
    have hszW := hg.size
    clear hg
    have haI : (a0 : Int) ≤ (k : Int) := by omega
    have hkS : (k : Int) ≤ (s.size : Int) := by omega
    have haS : (a0 : Int) ≤ (s.size : Int) := by omega
    by_cases hlt : k < s.size
    · have hkI : (k : Int) < s.size := by omega
      obtain ⟨x, hx⟩ : ∃ x : Nat, s[k].toNat = x := ⟨_, rfl⟩
      have HX := Lib.hid hx
      by_cases c1 : (x : Int) = (cN : Int)
      · have c1b : ((x : Int) == (cN : Int)) = true := by rw [beq_iff_eq]; exact c1
        have HF1 := Lib.hid (piece_free c s a0 k (fun j hj h1 h2 => by rw [HC.out]; exact HNO.out j hj h1 h2))
        have HST := Lib.hid (pre_step c s a0 k ha hlt (by rw [HX.out, HC.out]; omega))
        obtain ⟨p, hp⟩ : ∃ p, s.extract a0 k = p := ⟨_, rfl⟩
        rw [hp] at HF1 HST
        have HLN := Lib.hid (show (strs P).length ≤ 1048576 from by simp [strs]; omega)
        have HAP := Lib.hid (show strs P ++ strs [p] = strs (P ++ [p]) from by simp [strs])
        clear c1
        go_wp2_with (first | (at_builtin; (try rw [hp]); refine wpList_append_row2 rfl _ _ 22 rfl 9 i9 (.string ⟨#[]⟩) 16 Tryz.underlying22 hi9 hz0 hz1 hz2 rfl w.heap.size _ (strs P) rfl (HR.out.alloc _) ⟨_, 0, none⟩ 1 1 (strs [p]) rfl rfl (news_new _ 9 (strs [p])) (strs_one _) (by have := HLN.out; unfold maxLen; omega) (by have := HLN.out; omega) (by simp; omega) ?_; intro v2 w2 HR2 HG2 HO2))
        go_roundw
        case rel =>
          refine ⟨P ++ [p], k + 1, k + 1, Nat.le_refl _, by omega, by go_num, by go_num, Lib.hid (by rw [← HAP.out]; exact HR2.out), Lib.hid (fun q hq => ?_), Lib.hid ?_, Lib.hid (fun j _ h1 h2 => by omega), by simp; omega, grown_own (grown_alloc HG.out _) HG2.out (fun q hq => (HR.out.lt q hq).1)⟩
          · rcases List.mem_append.1 hq with h | h
            · exact HF.out q h
            · rw [List.mem_singleton.1 h]; exact HF1.out
          · rw [preB_app, HPR.out]; exact HST.out
        case measure => simp [intOf]; omega
      · have c1b : ((x : Int) == (cN : Int)) = false := by rw [beq_eq_false_iff_ne]; exact c1
        have HA2 := Lib.hid (show ∀ j (hj : j < s.size), a0 ≤ j → j < k + 1 → s[j].toNat ≠ cN from fun j hj h1 h2 => by
          by_cases e : j = k
          · subst e; rw [HX.out]; omega
          · exact HNO.out j hj h1 (by omega))
        go_wp2
        go_roundw
        case rel => exact ⟨P, a0, k + 1, by omega, by omega, rfl, by go_num, HR, HF, HPR, HA2, by omega, HG.out⟩
        case measure => simp [intOf]; omega
    · obtain rfl : k = s.size := by omega
      have HF1 := Lib.hid (piece_free c s a0 s.size (fun j hj h1 h2 => by rw [HC.out]; exact HNO.out j hj h1 h2))
      have HST := Lib.hid (show preB c P ++ s.extract a0 s.size = s from by
        rw [HPR.out]
        apply bytes_ext
        rw [show (s.extract 0 a0 ++ s.extract a0 s.size).data.toList = (s.extract 0 a0).data.toList ++ (s.extract a0 s.size).data.toList from by simp only [ByteArray.data_append, Array.toList_append], extract_list, extract_list]
        simp only [List.drop_zero, Nat.sub_zero]
        rw [List.take_of_length_le (l := List.drop a0 s.data.toList) (by simp), List.take_append_drop])
      obtain ⟨p, hp⟩ : ∃ p, s.extract a0 s.size = p := ⟨_, rfl⟩
      rw [hp] at HF1 HST
      have HLN := Lib.hid (show (strs P).length ≤ 1048576 from by simp [strs]; omega)
      have HAP := Lib.hid (show strs P ++ strs [p] = strs (P ++ [p]) from by simp [strs])
      go_wp2_with (first | (at_builtin; (try rw [hp]); refine wpList_append_row2 rfl _ _ 22 rfl 9 i9 (.string ⟨#[]⟩) 16 Tryz.underlying22 hi9 hz0 hz1 hz2 rfl w.heap.size _ (strs P) rfl (HR.out.alloc _) ⟨_, 0, none⟩ 1 1 (strs [p]) rfl rfl (news_new _ 9 (strs [p])) (strs_one _) (by have := HLN.out; unfold maxLen; omega) (by have := HLN.out; omega) (by simp; omega) ?_; intro v2 w2 HR2 HG2 HO2))
      have hr2 := HR2.out
      rw [HAP.out] at hr2
      obtain ⟨an, cn, hv, -⟩ := hr2.lies
      subst hv
      go_ret
      refine ⟨⟨P ++ [p], an, cn, rfl, hr2, by simp, by simp; omega, fun q hq => ?_, ?_⟩, grown_own (grown_alloc HG.out _) HG2.out (fun q hq => (HR.out.lt q hq).1)⟩
      · rcases List.mem_append.1 hq with h | h
        · exact HF.out q h
        · rw [List.mem_singleton.1 h]; exact HF1.out
      · rw [joinB_pre]; exact HST.out
end Go.Proofs.YtecekbhkombnnaaGreatDoor
