/- Itoa of what is not below 0. -/
import Derived.Test.YtdelijobaebfnaaDoorXQ1
import Derived.Test.YtdelijobaebfnaaDoorMa6
import Derived.Lib.AppendIntMem
import Derived.Test.YtdelijobaebfnaaDoorXQ2
namespace Go.Proofs.YtdelijobaebfnaaDoor
open Go.RowKit

/-- the table of the library's that Itoa reads -/
def Pow (w : World) : Prop := Lib.TabIs Tryd.prog w "internal/strconv.uint64pow10" .u64 Lib.pow10Tab
theorem Pow.grown {w w' : World} (h : Pow w) (hg : w.grownBy w' none) : Pow w' := Lib.tabBelow_of_tabIs h w' (below_of_grown hg (by simp))
theorem itoa_nat (n : Nat) (hn : n ≤ 4611686018427387903) (w : World) (h : Pow w) : Calls Tryd.prog 52 #[.int .i64 (n : Int)] w fun e w' => e = .returned (.string (decS n)) ∧ w.grownBy w' none := by
  refine (itoa_any n (by omega) (by omega) w h).mono ?_
  rintro e w' ⟨rfl, k, os, rfl⟩
  have e : Lib.itoa (n : Int) = Lib.decDigits n := by unfold Lib.itoa; rw [if_neg (by omega)]; rfl
  rw [e]
  exact ⟨rfl, grown_of_below (Lib.below_grow w.heap.size w (Nat.le_refl _) k os) none⟩

end Go.Proofs.YtdelijobaebfnaaDoor
namespace Go.Proofs.YtdelijobaebfnaaDoor
open Go.RowKit

/-- the texts that are summed -/
def parts (ss : List ByteArray) : List ByteArray := ss.flatMap fun s => [decS s.size ++ ⟨#[58]⟩, s]
theorem parts_take (ss : List ByteArray) (k : Nat) (hk : k < ss.length) : parts (ss.take (k + 1)) = parts (ss.take k) ++ [decS (ss.getD k ByteArray.empty).size ++ ⟨#[58]⟩, ss.getD k ByteArray.empty] := by
  unfold parts
  rw [List.take_succ_eq_append_getElem hk, List.flatMap_append]
  congr 1
  simp [hk]
theorem parts_len (ss : List ByteArray) : (parts ss).length = 2 * ss.length := by
  induction ss with
  | nil => rfl
  | cons s r ih =>
    rw [show parts (s :: r) = [decS s.size ++ ⟨#[58]⟩, s] ++ parts r from by simp [parts], List.length_append, ih]
    simp; omega
theorem parts_cat (ss : List ByteArray) : catI (parts ss) = encI ss := by
  induction ss with
  | nil => rfl
  | cons s r ih =>
    rw [show parts (s :: r) = [decS s.size ++ ⟨#[58]⟩, s] ++ parts r from by simp [parts], show encI (s :: r) = (bI (decS s.size) ++ 58 :: bI s) ++ encI r from by simp [encI], ← ih]
    simp [catI, bI_app]
    rfl

/-- the sum of texts that lie in a row -/
theorem hashBytes_row (w : World) (hw : Tabs w) (base : Nat) (v : Value) (ss : List ByteArray) (hr : Row w base v (strs ss)) (hlen : (catI ss).length < 1152921504606846976) (hsl : ss.length < 1152921504606846976) :
    Calls Tryd.prog 32 #[v] w fun e w' => ∃ g cap, e = .returned (.slice (some ⟨g, 0, none⟩) 32 cap) ∧ Hid (∀ j, j < 32 → w'.cell? ⟨g, j, none⟩ = some (.int .u8 ((sha (catI ss)).getD j 0))) ∧ Hid (w.grownBy w' none) := by
  have key : ∀ (ta : Option Addr) (tb cp : Nat), (0 < ss.length → ta = some ⟨tb, 0, none⟩) → (∀ j, j < ss.length → w.cell? ⟨tb, j, none⟩ = some (.string (ss.getD j ByteArray.empty))) →
      Calls Tryd.prog 32 #[.slice ta ss.length cp] w fun e w' => ∃ g cap, e = .returned (.slice (some ⟨g, 0, none⟩) 32 cap) ∧ Hid (∀ j, j < 32 → w'.cell? ⟨g, j, none⟩ = some (.int .u8 ((sha (catI ss)).getD j 0))) ∧ Hid (w.grownBy w' none) := fun ta tb cp hta hss => by
    refine (hashBytes_walk w K0 _ _ _ _ _ _ _ _ ss tb cp ta hta hss hlen hsl (hw.hs 0 (by decide)) (hw.hs 1 (by decide)) (hw.hs 2 (by decide)) (hw.hs 3 (by decide)) (hw.hs 4 (by decide)) (hw.hs 5 (by decide)) (hw.hs 6 (by decide)) (hw.hs 7 (by decide)) hw.ks).mono ?_
    rintro e w' ⟨v, rfl, hown, hg⟩
    obtain ⟨hxl, hcase⟩ := hown
    rcases hcase with ⟨_, h0⟩ | ⟨g, cap, cur, rfl, hg2, hblk, hn2, hc2, hcs, htk⟩
    · omega
    refine ⟨g, cap, rfl, Lib.hid fun j hj => ?_, Lib.hid hg⟩
    rw [cell_of_row w' g j cur 5 (0, 0) hblk]
    have hj' : j < (sha (catI ss)).length := by rw [sha_len]; exact hj
    have h1 := u8s_get hj'
    have htk' : cur.toList.take (32 * 1) = u8s (sha (catI ss)) := htk
    rw [← htk', List.getElem?_take, if_pos (by omega)] at h1
    simpa using h1
  rcases hr with ⟨rfl, h0⟩ | ⟨g, cap, rfl, hb, hl, hn, hc, _⟩
  · have : ss = [] := by simpa [strs] using h0
    subst this
    exact key none 0 0 (fun h => absurd h (by simp)) (fun j hj => absurd hj (by simp))
  · have hlS : (strs ss).length = ss.length := by simp [strs]
    rw [hlS] at hc ⊢
    refine key _ g cap (fun _ => rfl) (fun j hj => ?_)
    rw [hc j hj]
    simp [strs, hj]

set_option maxRecDepth 100000 in
set_option maxHeartbeats 2000000 in
theorem HashList_any (w : World) (hw : Tabs w) (hp : Pow w) (ss : List ByteArray) (tb cp : Nat) (ta : Option Addr) (hta : 0 < ss.length → ta = some ⟨tb, 0, none⟩)
    (hss : ∀ j, j < ss.length → w.cell? ⟨tb, j, none⟩ = some (.string (ss.getD j ByteArray.empty))) (hlen : (encI ss).length ≤ 4194304) (hsl : ss.length ≤ 4194304) :
    Calls Tryd.prog 75 #[.slice ta ss.length cp] w fun e w' => e = .returned (.string (strI (hexL (sha (encI ss))))) ∧ w.grownBy w' none := by
  have HSS := Lib.hid hss
  have HTA := Lib.hid hta
  have HW := Lib.hid hw
  have HP := Lib.hid hp
  clear hss hta hw hp
  obtain ⟨i9, hi9, hz0, hz1, hz2⟩ := info_parts info9
  have hmk : ∀ W : World, (Instr.makeSlice 60 (.int .i64 0) (.int .i64 (2 * (ss.length : Int)))).run Tryd.prog W = .ok (.slice (some ⟨W.heap.size, 0, none⟩) 0 (2 * ss.length)) (W.alloc (.cells (madeCells #[.string ⟨#[]⟩] (2 * ss.length)) 9)) := fun W => by
    have := run_make (P := Tryd.prog) W 60 9 i9 (.string ⟨#[]⟩) Tryd.underlying60 hi9 hz0 .i64 .i64 0 (2 * (ss.length : Int)) (by omega) (by omega) (by rw [hz2]; omega) (by omega)
    rw [this, hz1, show (2 * (ss.length : Int)).toNat = 2 * ss.length from by omega]
    simp [Value.cells]
  go_enter Tryd.func75, Tryd.ntmps75
  go_wp2
  go_loopw [3, 12] (fun v i wr => ∃ k : Nat, k ≤ ss.length ∧ i = .int .i64 k ∧ Row wr w.heap.size v (strs (parts (ss.take k))) ∧ w.grownBy wr none) (fun _ i _ => ss.length - (intOf i).toNat)
  case atStart => exact ⟨0, Nat.zero_le _, rfl, Row.made w 9 _ (2 * ss.length) (by simp [madeCells]), grown_alloc (grown_refl _ _) _⟩
  case round =>
    obtain ⟨k, hk, rfl, hrow, hg⟩ := hrel
    have HROW := Lib.hid hrow
    have HG := Lib.hid hg
    have hws := hg.size
    clear hrow hg
    by_cases hlt : k < ss.length
    · obtain ⟨s, hs⟩ : ∃ s, s = ss.getD k ByteArray.empty := ⟨_, rfl⟩
      have hta := HTA.out (by omega)
      subst hta
      have d0 : wr.cell? ⟨tb, k, none⟩ = some (.string s) := by rw [hs]; exact HG.out.cell (HSS.out k hlt) (by simp)
      have hpt := parts_take ss k hlt
      rw [← hs] at hpt
      have hle := encI_le ss (k + 1)
      rw [encI_take ss k hlt, ← hs] at hle
      simp only [List.length_append, List.length_cons, bI_len] at hle
      obtain ⟨D, hD⟩ : ∃ D, D = decS s.size := ⟨_, rfl⟩
      have HIT := Lib.hid (show Calls Tryd.prog 52 #[.int .i64 (s.size : Int)] wr fun e w' => e = .returned (.string D) ∧ wr.grownBy w' none from by rw [hD]; exact itoa_nat s.size (by omega) wr (HP.out.grown HG.out))
      rw [← hD] at hpt hle
      have HPT := Lib.hid hpt
      have hkI : (k : Int) < ss.length := by omega
      have h58 : (⟨#[58]⟩ : ByteArray).size = 1 := rfl
      have l1 : ¬ 9223372036854775807 < D.size + (⟨#[58]⟩ : ByteArray).size := by rw [h58]; omega
      have l1' : ¬ 9223372036854775807 < D.size + 1 := by omega
      have HLK := Lib.hid (show (strs (parts (ss.take k))).length = 2 * k from by rw [strs, List.length_map, parts_len, List.length_take]; omega)
      clear hs hD hpt hle h58
      go_wp2_with fail
      refine HIT.out.mono ?_
      rintro e w1 ⟨rfl, hg1⟩
      have HG1 := Lib.hid (grown_trans HG.out hg1)
      have HR1 := Lib.hid (HROW.out.kept hg1 (by simp))
      have hw1 := HG1.out.size
      clear hg1 HIT d0 HROW
      go_wp2_with (at_builtin; refine wpList_append_row rfl _ _ 60 rfl 9 i9 (.string ⟨#[]⟩) 16 Tryd.underlying60 hi9 hz0 hz1 hz2 rfl w.heap.size _ (strs (parts (ss.take k))) rfl (HR1.out.alloc _) ⟨w1.heap.size, 0, none⟩ 2 2 (strs [D ++ ⟨#[58]⟩, s]) rfl rfl (news_new _ 9 (strs [D ++ ⟨#[58]⟩, s])) (strs_one _) (by rw [HLK.out]; unfold maxLen; omega) (by rw [HLK.out]; omega) (by simp; omega) ?_; intro v1 w2 hrow1 hg2)
      go_roundw
      case rel =>
        refine ⟨k + 1, by omega, by go_num, ?_, grown_own (grown_alloc HG1.out _) hg2.out (fun q hq => (HR1.out.lt q hq).1)⟩
        have := hrow1.out
        rw [HPT.out]
        simpa [strs] using this
      case measure => simp [intOf]; omega
    · obtain rfl : k = ss.length := by omega
      have hr := HROW.out
      rw [List.take_length] at hr
      have HB := Lib.hid (hashBytes_row wr (HW.out.grown HG.out) w.heap.size _ (parts ss) hr (by rw [parts_cat]; omega) (by rw [parts_len]; omega))
      clear hr HROW
      go_wp2_with fail
      refine HB.out.mono ?_
      rintro e w1 ⟨g, cap, rfl, HC, hg1⟩
      rw [parts_cat] at HC
      have HSH := Lib.hid (hashShow32 w1 _ (sha_b _) (sha_len _) g cap HC.out)
      have HG1 := Lib.hid (grown_trans HG.out hg1.out)
      clear hg1 HB HC
      go_wp2_with fail
      refine HSH.out.mono ?_
      rintro e w2 ⟨rfl, hg2⟩
      have HG2 := Lib.hid (grown_trans HG1.out hg2)
      clear hg2
      go_wp2
      go_ret
      exact ⟨rfl, HG2.out⟩

end Go.Proofs.YtdelijobaebfnaaDoor
