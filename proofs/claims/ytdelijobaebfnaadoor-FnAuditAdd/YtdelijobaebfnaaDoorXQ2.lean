import Derived.Test.YtdelijobaebfnaaDoorXQ1
import Derived.Test.YtdelijobaebfnaaDoorMa7
namespace Go.Proofs.YtdelijobaebfnaaDoor
open Go.RowKit

/-- a list of texts, each with its length ahead of it -/
def encI (ss : List ByteArray) : List Int := ss.flatMap fun s => bI (decS s.size) ++ 58 :: bI s
theorem encI_take (ss : List ByteArray) (k : Nat) (hk : k < ss.length) : encI (ss.take (k + 1)) = encI (ss.take k) ++ (bI (decS (ss.getD k ByteArray.empty).size) ++ 58 :: bI (ss.getD k ByteArray.empty)) := by
  unfold encI
  rw [List.take_succ_eq_append_getElem hk, List.flatMap_append]
  congr 1
  simp [hk]
theorem encI_le (ss : List ByteArray) (k : Nat) : (encI (ss.take k)).length ≤ (encI ss).length := by
  have : encI ss = encI (ss.take k) ++ encI (ss.drop k) := by simp [encI, ← List.flatMap_append]
  rw [this]; simp

set_option maxRecDepth 100000 in
set_option maxHeartbeats 2000000 in
theorem specList_walk (w : World) (ss : List ByteArray) (tb cp : Nat) (ta : Option Addr) (hta : 0 < ss.length → ta = some ⟨tb, 0, none⟩)
    (hss : ∀ j, j < ss.length → w.cell? ⟨tb, j, none⟩ = some (.string (ss.getD j ByteArray.empty))) (hlen : (encI ss).length ≤ 4194304) (hsl : ss.length ≤ 4194304) :
    Calls Tryd.prog 49 #[.slice ta ss.length cp] w fun e w' => e = .returned (.string (strI (hexL (sha (encI ss))))) ∧ w.grownBy w' none := by
  have HSS := Lib.hid hss
  have HTA := Lib.hid hta
  clear hss hta
  go_enter Tryd.func49, Tryd.ntmps49
  go_wp2
  go_loopw [3, 4] (fun o i wr => ∃ (k : Nat) (O : ByteArray), k ≤ ss.length ∧ i = .int .i64 k ∧ o = .string O ∧ Hid (bI O = encI (ss.take k)) ∧ w.grownBy wr none) (fun _ i _ => ss.length - (intOf i).toNat)
  case atStart => exact ⟨0, ⟨#[]⟩, Nat.zero_le _, rfl, rfl, Lib.hid rfl, grown_refl _ _⟩
  case round =>
    obtain ⟨k, O, hk, rfl, rfl, HO, hg⟩ := hrel
    have HG := Lib.hid hg
    clear hg
    by_cases hlt : k < ss.length
    · obtain ⟨s, hs⟩ : ∃ s, s = ss.getD k ByteArray.empty := ⟨_, rfl⟩
      have hta := HTA.out (by omega)
      subst hta
      have d0 : wr.cell? ⟨tb, k, none⟩ = some (.string s) := by rw [hs]; exact HG.out.cell (HSS.out k hlt) (by simp)
      have henc : encI (ss.take (k + 1)) = bI O ++ (bI (decS s.size) ++ 58 :: bI s) := by rw [hs, HO.out]; exact encI_take ss k hlt
      have hle := encI_le ss (k + 1)
      rw [henc] at hle
      simp only [List.length_append, List.length_cons, bI_len] at hle
      obtain ⟨D, hD⟩ : ∃ D, D = decS s.size := ⟨_, rfl⟩
      rw [← hD] at henc hle
      have HDW := Lib.hid (show ∀ W, Calls Tryd.prog 50 #[.int .i64 (s.size : Int)] W fun e w' => e = .returned (.string D) ∧ W.grownBy w' none from fun W => by rw [hD]; exact dec_walk s.size W (by omega))
      have HDA := Lib.hid (HDW.out wr.drew)
      have HENC := Lib.hid henc
      have hkI : (k : Int) < ss.length := by omega
      have l1 : ¬ 9223372036854775807 < O.size + D.size := by omega
      have h58 : (⟨#[58]⟩ : ByteArray).size = 1 := rfl
      have l2 : ¬ 9223372036854775807 < O.size + D.size + 1 := by omega
      have l2' : ¬ 9223372036854775807 < (O ++ D).size + (⟨#[58]⟩ : ByteArray).size := by rw [ByteArray.size_append, h58]; omega
      have l3 : ¬ 9223372036854775807 < O.size + D.size + 1 + s.size := by omega
      have l3' : ¬ 9223372036854775807 < (O ++ D ++ ⟨#[58]⟩).size + s.size := by rw [ByteArray.size_append, ByteArray.size_append, h58]; omega
      clear hs hD henc hle HDW h58
      go_wp2_with fail
      go_region_with (
        go_at_call 50
        refine HDA.out.mono ?_
        rintro e w1 ⟨rfl, hg1⟩
        have d1 := hg1.cell d0 (by simp)
        have HG1 := Lib.hid (show w.grownBy w1 none from grown_trans HG.out (grown_undrew hg1))
        clear hg1)
      all_goals
        go_wp2
        go_roundw
        case rel =>
          refine ⟨k + 1, _, by omega, by go_num, rfl, Lib.hid ?_, HG1.out⟩
          rw [HENC.out, bI_app, bI_app, bI_app]
          simp [bI]
        case measure => simp [intOf]; omega
    · obtain rfl : k = ss.length := by omega
      have hO : bI O = encI ss := by have := HO.out; rwa [List.take_length] at this
      have hOs : O.size ≤ 4194304 := by have := congrArg List.length hO; rw [bI_len] at this; omega
      have HS := Lib.hid (specHashSum_any wr O hOs)
      have HO2 := Lib.hid hO
      clear hO
      go_wp2_with fail
      refine HS.out.mono ?_
      rintro e w1 ⟨rfl, hg1⟩
      have HG1 := Lib.hid (grown_trans HG.out hg1)
      clear hg1
      go_wp2
      go_ret
      refine ⟨?_, HG1.out⟩
      rw [sha_same _ (bI_b O), HO2.out]
      rfl

end Go.Proofs.YtdelijobaebfnaaDoor
