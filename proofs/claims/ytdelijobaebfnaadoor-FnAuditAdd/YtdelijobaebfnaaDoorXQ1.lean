import Derived.Test.YtdelijobaebfnaaDoorMa6
import Derived.Test.YtdelijobaebfnaaDoorXS5
import Derived.Lib.ItoaLen
namespace Go.Proofs.YtdelijobaebfnaaDoor
open Go.RowKit

/-- the figures of a number -/
def decS (n : Nat) : ByteArray := ⟨(Lib.decDigits n).toArray⟩
theorem decS_one (n : Nat) (h : n < 10) : decS n = strI [48 + (n : Int)] := by
  have e : Lib.decDigits n = toB [48 + (n : Int)] := by
    rw [Lib.decDigits, dif_pos h]
    show [UInt8.ofNat (48 + n)] = [UInt8.ofNat (48 + (n : Int)).toNat]
    rw [show (48 + (n : Int)).toNat = 48 + n by omega]
  unfold decS strI
  rw [e]
theorem decS_more (n : Nat) (h : ¬ n < 10) : decS n = decS (n / 10) ++ strI [48 + ((n % 10 : Nat) : Int)] := by
  have e : Lib.decDigits n = Lib.decDigits (n / 10) ++ toB [48 + ((n % 10 : Nat) : Int)] := by
    rw [Lib.decDigits, dif_neg h]
    show _ ++ [UInt8.ofNat (48 + n % 10)] = _ ++ [UInt8.ofNat (48 + ((n % 10 : Nat) : Int)).toNat]
    rw [show (48 + ((n % 10 : Nat) : Int)).toNat = 48 + n % 10 by omega]
  unfold decS strI
  rw [e]
  apply ByteArray.ext
  rw [ByteArray.data_append]
  simp
theorem decS_size (n : Nat) (hn : n < 4611686018427387904) : (decS n).size ≤ 21 := by
  have h := Lib.itoa_length_le (n : Int) (by omega) (by omega)
  unfold Lib.itoa at h
  rw [if_neg (by omega)] at h
  exact h

set_option maxRecDepth 100000 in
set_option maxHeartbeats 1000000 in
theorem dec_walk (n : Nat) : ∀ (w : World), n < 4611686018427387904 → Calls Tryd.prog 50 #[.int .i64 n] w fun e w' => e = .returned (.string (decS n)) ∧ w.grownBy w' none := by
  induction n using Nat.strongRecOn with
  | _ n ih =>
    intro w hn
    by_cases h10 : n < 10
    · have hI : (n : Int) < 10 := by omega
      have hw8 : IntKind.u8.wrap (48 + (n : Int)) = 48 + (n : Int) := by rw [IntKind.wrap_u8']; omega
      have hcv := conv_one (w.alloc (.cells #[.int .u8 (48 + (n : Int))] 5)) (48 + (n : Int)) (by omega) (by omega) w.heap.size ((Blk.new w 5 [.int .u8 (48 + (n : Int))]).cell rfl)
      rw [← decS_one n h10] at hcv
      clear ih
      go_enter Tryd.func50, Tryd.ntmps50
      go_wp2
      go_ret
      exact ⟨rfl, World.grownBy_alloc w _ none⟩
    · obtain ⟨q, hq⟩ : ∃ q, q = n / 10 := ⟨_, rfl⟩
      obtain ⟨r, hr⟩ : ∃ r, r = n % 10 := ⟨_, rfl⟩
      have hr10 : r < 10 := by omega
      have hI : (10 : Int) ≤ (n : Int) := by omega
      have e1 : IntKind.i64.wrap (q : Int) = (q : Int) := by rw [IntKind.wrap_i64]; omega
      have e1' : (n : Int).tdiv 10 = (q : Int) := by rw [Int.tdiv_eq_ediv_of_nonneg (by omega)]; omega
      have e2 : (n : Int).tmod 10 = (r : Int) := by rw [Int.tmod_eq_emod_of_nonneg (by omega)]; omega
      have e3 : IntKind.i64.wrap (48 + (r : Int)) = 48 + (r : Int) := by rw [IntKind.wrap_i64]; omega
      have e4 : IntKind.u8.wrap (48 + (r : Int)) = 48 + (r : Int) := by rw [IntKind.wrap_u8']; omega
      have hsz := decS_size q (by omega)
      have hs1 : (strI [48 + (r : Int)]).size = 1 := by rw [strI_size]; rfl
      have hlim : ¬ 9223372036854775807 < (decS q).size + (strI [48 + (r : Int)]).size := by omega
      have hih : ∀ W, Calls Tryd.prog 50 #[.int .i64 (q : Int)] W fun e w' => e = .returned (.string (decS q)) ∧ W.grownBy w' none := fun W => ih q (by omega) W (by omega)
      have HE := Lib.hid (show decS n = decS q ++ strI [48 + (r : Int)] from by rw [hq, hr]; exact decS_more n h10)
      generalize decS q = D at hih hlim HE hsz
      obtain ⟨R, hR⟩ : ∃ R, strI [48 + (r : Int)] = R := ⟨_, rfl⟩
      rw [hR] at hlim HE
      have HR := Lib.hid hR
      have HIA := Lib.hid (hih (w.alloc (.cells #[.int .u8 (48 + (r : Int))] 5)).drew)
      have HID := Lib.hid (hih w.drew)
      have hx0 : 0 ≤ 48 + (r : Int) := by omega
      have hx1 : 48 + (r : Int) < 256 := by omega
      have HB := Lib.hid ((Blk.new w 5 [.int .u8 (48 + (r : Int))]).drew.cell (j := 0) rfl)
      have hcvd := conv_one (w.alloc (.cells #[.int .u8 (48 + (r : Int))] 5)).drew (48 + (r : Int)) hx0 hx1 w.heap.size HB.out
      rw [hR] at hcvd
      clear ih hih hq hr hsz hs1 hR
      go_enter Tryd.func50, Tryd.ntmps50
      go_wp2_with fail
      go_region_with (
        go_at_call 50
        first
          | (with_reducible refine HIA.out.mono ?_
             rintro e w1 ⟨rfl, hg1⟩
             have hcv2 := conv_one w1 (48 + (r : Int)) hx0 hx1 w.heap.size (hg1.cell HB.out (by simp))
             rw [HR.out] at hcv2
             have HG1 := Lib.hid (show w.grownBy w1 none from grown_trans (World.grownBy_alloc w _ none) (grown_undrew hg1))
             clear hg1)
          | (with_reducible refine HID.out.mono ?_
             rintro e w1 ⟨rfl, hg1⟩
             have hcv1 := conv_one (w1.alloc (.cells #[.int .u8 (48 + (r : Int))] 5)) (48 + (r : Int)) hx0 hx1 w1.heap.size ((Blk.new w1 5 [.int .u8 (48 + (r : Int))]).cell rfl)
             rw [HR.out] at hcv1
             have HG1 := Lib.hid (show w.grownBy w1 none from grown_undrew hg1)
             clear hg1))
      all_goals
        go_wp2
        go_ret
        refine ⟨by rw [HE.out]; rfl, ?_⟩
        first
          | exact HG1.out
          | exact grown_alloc HG1.out _

end Go.Proofs.YtdelijobaebfnaaDoor
