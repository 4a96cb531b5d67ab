import Derived.Test.YtdelijobaebfnaaDoorXS4
import Derived.Test.YtdelijobaebfnaaDoorMv5
import Derived.Lib.ItoaLen
namespace Go.Proofs.YtdelijobaebfnaaDoor
open Go.RowKit

theorem run_at (s : ByteArray) (k : Nat) (hk : k < s.size) (w : World) : (Instr.index 9 (.string s) (.int .i64 k)).run Tryd.prog w = .ok (.int .u8 ((bI s).getD k 0)) w := by
  rw [bI_get s k hk]
  have hk2 : k < s.data.size := hk
  have : s[k]? = some s.data[k] := by
    show (if h : k < s.size then some s[k] else none) = _
    rw [dif_pos hk]; rfl
  have g : s.data.toList.getD k 0 = s.data[k] := by simp only [List.getD_eq_getElem?_getD, Array.getElem?_toList, Array.getElem?_eq_getElem hk2, Option.getD_some]
  rw [g]
  simp [Instr.index, run_underlying Tryd.underlying9, asIntOf, this]

set_option maxRecDepth 100000 in
set_option maxHeartbeats 1000000 in
theorem specHex_walk (w : World) (s : ByteArray) (hs : s.size ≤ 4194304) (hs0 : 0 < s.size) :
    Calls Tryd.prog 56 #[.string s] w fun e w' => e = .returned (.string (strI (hexL (bI s)))) ∧ w.grownBy w' none := by
  obtain ⟨i5, hi5, hz0, hz1, hz2⟩ := info_parts info5
  obtain ⟨L, hL⟩ : ∃ L, L = bI s := ⟨_, rfl⟩
  have hLl : L.length = s.size := by rw [hL]; exact bI_len s
  have hL8 : B8 L := by rw [hL]; exact bI_b s
  have HL := Lib.hid hL
  have HL8 := Lib.hid hL8
  have HLL := Lib.hid hLl
  clear hL hL8 hLl
  go_enter Tryd.func56, Tryd.ntmps56
  go_wp2
  go_loopw [3, 4] (fun v i wr => ∃ k : Nat, k ≤ s.size ∧ i = .int .i64 k ∧ Row wr w.heap.size v (u8s (hexL (L.take k))) ∧ w.grownBy wr none) (fun _ i _ => s.size - (intOf i).toNat)
  case atStart => exact ⟨0, Nat.zero_le _, rfl, Row.lit w 5 [], grown_alloc (grown_refl _ _) _⟩
  case round =>
    obtain ⟨k, hk, rfl, hrow, hg⟩ := hrel
    have HROW := Lib.hid hrow
    have HG := Lib.hid hg
    have hws := hg.size
    have HLK := Lib.hid (show (u8s (hexL (L.take k))).length = 2 * k from by rw [List.length_map, hexL_len, List.length_take, HLL.out]; omega)
    clear hrow hg
    by_cases hlt : k < s.size
    · obtain ⟨c, hcx⟩ : ∃ c, c = L.getD k 0 := ⟨_, rfl⟩
      have hkL : k < L.length := by rw [HLL.out]; exact hlt
      have hcb : 0 ≤ c ∧ c < 256 := by rw [hcx]; have := HL8.out L[k] (List.getElem_mem hkL); simpa [hkL] using this
      obtain ⟨hc0, hc1⟩ := hcb
      have hat : ∀ W, (Instr.index 9 (.string s) (.int .i64 k)).run Tryd.prog W = .ok (.int .u8 c) W := fun W => by rw [hcx, HL.out]; exact run_at s k hlt W
      obtain ⟨q1, hq1⟩ : ∃ q, q = (c / 16).toNat := ⟨_, rfl⟩
      obtain ⟨q2, hq2⟩ : ∃ q, q = (c % 16).toNat := ⟨_, rfl⟩
      have e1 : IntKind.u8.wrap (c.tdiv 16) = (q1 : Int) := by rw [IntKind.wrap_u8', Int.tdiv_eq_ediv_of_nonneg hc0]; omega
      have e2 : c.tmod 16 = (q2 : Int) := by rw [Int.tmod_eq_emod_of_nonneg hc0]; omega
      have l1 : q1 < 16 := by omega
      have l2 : q2 < 16 := by omega
      have f1 := run_fig .u8 rfl q1 l1
      have f2 := run_fig .u8 rfl q2 l2
      have HX := Lib.hid (And.intro hcx (And.intro hq1 hq2))
      clear hcx hq1 hq2
      have hkI : (k : Int) < (s.size : Int) := by omega
      go_wp2
      go_region_law (refine step_append_row (by rfl) _ _ 22 (by rfl) 5 i5 (.int .u8 0) 1 Tryd.underlying22 hi5 hz0 hz1 hz2 rfl w.heap.size _ (u8s (hexL (L.take k))) (by rfl) (HROW.out.alloc _) ⟨wr.heap.size, 0, none⟩ 2 2 (u8s [hexD q1, hexD q2]) (by rfl) rfl (news_new wr 5 (u8s [hexD q1, hexD q2])) (u8s_one _) (by rw [HLK.out]; unfold maxLen; omega) (by rw [HLK.out]; omega) (by simp; omega) ?_; intro v1 w1 hrow1 hg1)
      all_goals
        clear hat e1 e2 f1 f2
        go_wp2
        go_roundw
        case rel =>
          refine ⟨k + 1, by omega, by go_num, ?_, grown_own (grown_drew (grown_alloc HG.out _)) hg1.out (fun q hq => (HROW.out.lt q hq).1)⟩
          obtain ⟨hcx, hq1, hq2⟩ := HX.out
          have := hrow1.out
          rw [← List.map_append, show [hexD q1, hexD q2] = hex2 (L.getD k 0) from by rw [hq1, hq2, hcx]; rfl, ← hexL_take _ k hkL] at this
          exact this
        case measure => simp [intOf]; omega
    · have hks : k = s.size := by omega
      have hrow := HROW.out
      rw [List.take_of_length_le (by rw [HLL.out]; omega)] at hrow
      have hO : (hexL L).length = 2 * k := by rw [hexL_len, HLL.out, hks]
      rcases hrow with ⟨_, h0⟩ | ⟨g2, cap2, rfl, hb2, hl2, hn2, hc2, _⟩
      · have : hexL L = [] := by simpa using h0
        rw [this] at hO; simp at hO; omega
      rw [List.length_map, hO] at hn2 hc2 ⊢
      have hcells : ∀ j (hj : j < (toB (hexL L)).length), wr.cell? ((⟨g2, 0, none⟩ : Addr).add j) = some (.int .u8 ((toB (hexL L))[j].toNat : Int)) := fun j hj => by
        have hj' : j < (hexL L).length := by rwa [toB_len] at hj
        rw [Addr.add_mid, Nat.zero_add, toB_get _ (hexL_b L) j hj, hc2 j (by omega)]
        exact u8s_get hj'
      have hcv := run_convert_bytes_back (P := Tryd.prog) wr 22 9 5 ⟨g2, 0, none⟩ cap2 (toB (hexL L)) Tryd.underlying22 Tryd.underlying5 Tryd.underlying9 hcells
      rw [toB_len, hO] at hcv
      clear hcells hc2 hks hO
      go_wp2
      go_ret
      refine ⟨?_, HG.out⟩
      rw [← HL.out]
      rfl

/-- the sum as the document's model has it -/
def shaS (m : List Int) : List Int := out4 (blocksS (padI m) ((padI m).length / 64))
theorem shaS_len (m : List Int) : (shaS m).length = 32 := by unfold shaS; rw [out4_len, blocksS_len]

set_option maxRecDepth 100000 in
set_option maxHeartbeats 400000 in
theorem specHashSum_any (w : World) (s : ByteArray) (hs : s.size ≤ 4194304) :
    Calls Tryd.prog 34 #[.string s] w fun e w' => e = .returned (.string (strI (hexL (shaS (bI s))))) ∧ w.grownBy w' none := by
  go_enter Tryd.func34, Tryd.ntmps34
  go_wp2_with fail
  refine (specSum_walk w s hs).mono ?_
  rintro e w1 ⟨rfl, hg1⟩
  have HG1 := Lib.hid hg1
  clear hg1
  go_wp2_with fail
  refine (specHex_walk w1 (strI (shaS (bI s))) (by rw [strI_size, shaS_len]; decide) (by rw [strI_size, shaS_len]; decide)).mono ?_
  rintro e w2 ⟨rfl, hg2⟩
  go_wp2
  go_ret
  exact ⟨by rw [bI_strI (shaS (bI s)) (out4_b _)]; rfl, grown_trans HG1.out hg2⟩

end Go.Proofs.YtdelijobaebfnaaDoor
namespace Go.Proofs.YtdelijobaebfnaaDoor
open Go.RowKit

/-- the figures of a number -/
def decS (n : Nat) : ByteArray := ⟨(Lib.decDigits n).toArray⟩
theorem decS_one (n : Nat) (h : n < 10) : decS n = strI [48 + (n : Int)] := by
  have e : Lib.decDigits n = toB [48 + (n : Int)] := by
    rw [Lib.decDigits, dif_pos h]
    show [UInt8.ofNat (48 + n)] = [UInt8.ofNat (48 + (n : Int)).toNat]
    rw [show (48 + (n : Int)).toNat = 48 + n by omega]
  unfold decS strI
  rw [e]
theorem decS_more (n : Nat) (h : ¬ n < 10) : decS n = decS (n / 10) ++ strI [48 + ((n % 10 : Nat) : Int)] := by
  have e : Lib.decDigits n = Lib.decDigits (n / 10) ++ toB [48 + ((n % 10 : Nat) : Int)] := by
    rw [Lib.decDigits, dif_neg h]
    show _ ++ [UInt8.ofNat (48 + n % 10)] = _ ++ [UInt8.ofNat (48 + ((n % 10 : Nat) : Int)).toNat]
    rw [show (48 + ((n % 10 : Nat) : Int)).toNat = 48 + n % 10 by omega]
  unfold decS strI
  rw [e]
  apply ByteArray.ext
  rw [ByteArray.data_append]
  simp
theorem decS_size (n : Nat) (hn : n < 4611686018427387904) : (decS n).size ≤ 21 := by
  have h := Lib.itoa_length_le (n : Int) (by omega) (by omega)
  unfold Lib.itoa at h
  rw [if_neg (by omega)] at h
  exact h

set_option maxRecDepth 100000 in
set_option maxHeartbeats 1000000 in
theorem dec_walk (n : Nat) : ∀ (w : World), n < 4611686018427387904 → Calls Tryd.prog 50 #[.int .i64 n] w fun e w' => e = .returned (.string (decS n)) ∧ w.grownBy w' none := by
  induction n using Nat.strongRecOn with
  | _ n ih =>
    intro w hn
    by_cases h10 : n < 10
    · have hI : (n : Int) < 10 := by omega
      have hw8 : IntKind.u8.wrap (48 + (n : Int)) = 48 + (n : Int) := by rw [IntKind.wrap_u8']; omega
      have hcv := conv_one (w.alloc (.cells #[.int .u8 (48 + (n : Int))] 5)) (48 + (n : Int)) (by omega) (by omega) w.heap.size ((Blk.new w 5 [.int .u8 (48 + (n : Int))]).cell rfl)
      rw [← decS_one n h10] at hcv
      clear ih
      go_enter Tryd.func50, Tryd.ntmps50
      go_wp2
      go_ret
      exact ⟨rfl, World.grownBy_alloc w _ none⟩
    · obtain ⟨q, hq⟩ : ∃ q, q = n / 10 := ⟨_, rfl⟩
      obtain ⟨r, hr⟩ : ∃ r, r = n % 10 := ⟨_, rfl⟩
      have hr10 : r < 10 := by omega
      have hI : (10 : Int) ≤ (n : Int) := by omega
      have e1 : IntKind.i64.wrap (q : Int) = (q : Int) := by rw [IntKind.wrap_i64]; omega
      have e1' : (n : Int).tdiv 10 = (q : Int) := by rw [Int.tdiv_eq_ediv_of_nonneg (by omega)]; omega
      have e2 : (n : Int).tmod 10 = (r : Int) := by rw [Int.tmod_eq_emod_of_nonneg (by omega)]; omega
      have e3 : IntKind.i64.wrap (48 + (r : Int)) = 48 + (r : Int) := by rw [IntKind.wrap_i64]; omega
      have e4 : IntKind.u8.wrap (48 + (r : Int)) = 48 + (r : Int) := by rw [IntKind.wrap_u8']; omega
      have hsz := decS_size q (by omega)
      have hs1 : (strI [48 + (r : Int)]).size = 1 := by rw [strI_size]; rfl
      have hlim : ¬ 9223372036854775807 < (decS q).size + (strI [48 + (r : Int)]).size := by omega
      have hih : ∀ W, Calls Tryd.prog 50 #[.int .i64 (q : Int)] W fun e w' => e = .returned (.string (decS q)) ∧ W.grownBy w' none := fun W => ih q (by omega) W (by omega)
      have HE := Lib.hid (show decS n = decS q ++ strI [48 + (r : Int)] from by rw [hq, hr]; exact decS_more n h10)
      generalize decS q = D at hih hlim HE hsz
      obtain ⟨R, hR⟩ : ∃ R, strI [48 + (r : Int)] = R := ⟨_, rfl⟩
      rw [hR] at hlim HE
      have HR := Lib.hid hR
      have HIA := Lib.hid (hih (w.alloc (.cells #[.int .u8 (48 + (r : Int))] 5)).drew)
      have HID := Lib.hid (hih w.drew)
      have hx0 : 0 ≤ 48 + (r : Int) := by omega
      have hx1 : 48 + (r : Int) < 256 := by omega
      have HB := Lib.hid ((Blk.new w 5 [.int .u8 (48 + (r : Int))]).drew.cell (j := 0) rfl)
      have hcvd := conv_one (w.alloc (.cells #[.int .u8 (48 + (r : Int))] 5)).drew (48 + (r : Int)) hx0 hx1 w.heap.size HB.out
      rw [hR] at hcvd
      clear ih hih hq hr hsz hs1 hR
      go_enter Tryd.func50, Tryd.ntmps50
      go_wp2_with fail
      go_region_with (
        go_at_call 50
        first
          | (with_reducible refine HIA.out.mono ?_
             rintro e w1 ⟨rfl, hg1⟩
             have hcv2 := conv_one w1 (48 + (r : Int)) hx0 hx1 w.heap.size (hg1.cell HB.out (by simp))
             rw [HR.out] at hcv2
             have HG1 := Lib.hid (show w.grownBy w1 none from grown_trans (World.grownBy_alloc w _ none) (grown_undrew hg1))
             clear hg1)
          | (with_reducible refine HID.out.mono ?_
             rintro e w1 ⟨rfl, hg1⟩
             have hcv1 := conv_one (w1.alloc (.cells #[.int .u8 (48 + (r : Int))] 5)) (48 + (r : Int)) hx0 hx1 w1.heap.size ((Blk.new w1 5 [.int .u8 (48 + (r : Int))]).cell rfl)
             rw [HR.out] at hcv1
             have HG1 := Lib.hid (show w.grownBy w1 none from grown_undrew hg1)
             clear hg1))
      all_goals
        go_wp2
        go_ret
        refine ⟨by rw [HE.out]; rfl, ?_⟩
        first
          | exact HG1.out
          | exact grown_alloc HG1.out _

end Go.Proofs.YtdelijobaebfnaaDoor
