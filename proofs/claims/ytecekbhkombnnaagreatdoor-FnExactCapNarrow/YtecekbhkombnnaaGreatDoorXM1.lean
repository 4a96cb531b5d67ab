import Derived.Test.YtecekbhkombnnaaGreatDoorXE1
import Derived.Lib.BufferWrite
namespace Go.Proofs.YtecekbhkombnnaaGreatDoor
open Go.RowKit

/-- a key's block: its bytes and noughts behind them, each under the mask -/
def maskT (k : List Int) (mk : Int) (n : Nat) : List Int := (List.range n).map fun j => bits .xor .u8 (k.getD j 0) mk
def padK (k : List Int) (mk : Int) : List Int := maskT k mk 64
theorem maskT_succ (k : List Int) (mk : Int) (n : Nat) : maskT k mk (n + 1) = maskT k mk n ++ [bits .xor .u8 (k.getD n 0) mk] := by
  unfold maskT; rw [List.range_succ, List.map_append]; rfl
theorem maskT_len (k : List Int) (mk : Int) (n : Nat) : (maskT k mk n).length = n := by simp [maskT]
theorem padK_len (k : List Int) (mk : Int) : (padK k mk).length = 64 := maskT_len k mk 64
theorem maskT_b (k : List Int) (hk : B8 k) (mk : Int) (h0 : 0 ≤ mk) (h1 : mk < 256) (n : Nat) : B8 (maskT k mk n) := fun x hx => by
  obtain ⟨j, _, rfl⟩ := List.mem_map.1 hx
  have hb : 0 ≤ k.getD j 0 ∧ k.getD j 0 < 256 := by
    by_cases hj : j < k.length
    · have := hk k[j] (List.getElem_mem hj); simpa [hj] using this
    · have : k[j]? = none := List.getElem?_eq_none (by omega)
      simp [this]
  rw [u8_xor _ _ hb.1 hb.2 h0 h1]
  have : (k.getD j 0).toNat ^^^ mk.toNat < 2 ^ 8 := Nat.xor_lt_two_pow (by omega) (by omega)
  omega

theorem mask_step (m : List Int) (mk : Int) (L : List Int) (k : Nat) (hk : k < L.length) : (u8s (maskT m mk k ++ L.drop k)).set k (.int .u8 (bits .xor .u8 (m.getD k 0) mk)) = u8s (maskT m mk (k + 1) ++ L.drop (k + 1)) := by
  rw [maskT_succ, List.drop_eq_getElem_cons hk]
  unfold u8s
  rw [← List.map_set, List.set_append_right _ _ (by rw [maskT_len]; omega), maskT_len, Nat.sub_self, List.set_cons_zero]
  simp
/-- the world behind 'copy' of a string into a block of 64 noughts -/
def padW (w : World) (s : ByteArray) : World := (w.alloc (.cells (u8s (List.replicate 64 0)).toArray 91)).setRow w.heap.size (u8s (bI s ++ List.replicate (64 - s.size) 0)).toArray
theorem padL (n : Nat) (s : ByteArray) : (u8s (List.replicate n 0)).toArray.toList.take 0 ++ Lib.byteCells s.data.toList ++ (u8s (List.replicate n 0)).toArray.toList.drop (0 + s.size) = u8s (bI s ++ List.replicate (n - s.size) 0) := by
  simp [Lib.byteCells, bI, u8s, List.map_replicate, List.drop_replicate]
theorem run_padW (w : World) (s : ByteArray) (hs : s.size ≤ 64) : (Builtin.copy_ #[65, 9] 3 #[.slice (some ⟨w.heap.size, 0, none⟩) 64 64, .string s]).run Tryz.prog (w.alloc (.cells (u8s (List.replicate 64 0)).toArray 91)) = .ok (goInt s.size) (padW w s) := by
  have hrun := Lib.run_copy_row_string (P := Tryz.prog) (w.alloc (.cells (u8s (List.replicate 64 0)).toArray 91)) 65 9 3 5 w.heap.size 0 64 64 s (u8s (List.replicate 64 0)).toArray 91 Tryz.underlying65 (by kernel_rfl) (Blk.new w 91 (u8s (List.replicate 64 0))) hs (by simpa using hs)
  rw [hrun, padW, padL 64 s]
theorem padW_blk (w : World) (s : ByteArray) (_hs : s.size ≤ 64) : Blk (padW w s) w.heap.size 91 (u8s (bI s ++ List.replicate (64 - s.size) 0)) := by
  show _ = _
  exact setRow_heap _ w.heap.size _ _ 91 _ (Blk.new w 91 (u8s (List.replicate 64 0)))
theorem padW_grown (w : World) (s : ByteArray) : w.grownBy (padW w s) none := grown_new (grown_setRow (grown_alloc (grown_refl w (some w.heap.size)) _) _) (Nat.le_refl _)

set_option maxRecDepth 100000 in
set_option maxHeartbeats 1000000 in
theorem hashPad_walk (w : World) (s : ByteArray) (hs : s.size ≤ 64) (mk : Int) (hm0 : 0 ≤ mk) (hm1 : mk < 256) :
    Calls Tryz.prog 61 #[.string s, .int .u8 mk] w fun e w' => e = .returned (.string (strI (padK (bI s) mk))) ∧ w.grownBy w' none := by
  have hsI : (s.size : Int) ≤ 64 := by omega
  go_enter Tryz.func61, Tryz.ntmps61
  have hcp : (Builtin.copy_ #[65, 9] 3 #[.slice (some ⟨w.heap.size, 0, none⟩) 64 64, .string s]).run Tryz.prog (w.alloc (.cells #[.int .u8 0, .int .u8 0, .int .u8 0, .int .u8 0, .int .u8 0, .int .u8 0, .int .u8 0, .int .u8 0, .int .u8 0, .int .u8 0, .int .u8 0, .int .u8 0, .int .u8 0, .int .u8 0, .int .u8 0, .int .u8 0, .int .u8 0, .int .u8 0, .int .u8 0, .int .u8 0, .int .u8 0, .int .u8 0, .int .u8 0, .int .u8 0, .int .u8 0, .int .u8 0, .int .u8 0, .int .u8 0, .int .u8 0, .int .u8 0, .int .u8 0, .int .u8 0, .int .u8 0, .int .u8 0, .int .u8 0, .int .u8 0, .int .u8 0, .int .u8 0, .int .u8 0, .int .u8 0, .int .u8 0, .int .u8 0, .int .u8 0, .int .u8 0, .int .u8 0, .int .u8 0, .int .u8 0, .int .u8 0, .int .u8 0, .int .u8 0, .int .u8 0, .int .u8 0, .int .u8 0, .int .u8 0, .int .u8 0, .int .u8 0, .int .u8 0, .int .u8 0, .int .u8 0, .int .u8 0, .int .u8 0, .int .u8 0, .int .u8 0, .int .u8 0] 91)) = .ok (goInt s.size) (padW w s) := run_padW w s hs
  have hb1 := Lib.hid (padW_blk w s hs)
  have hg1 := Lib.hid (padW_grown w s)
  generalize padW w s = w1 at hcp hb1 hg1
  go_wp2
  obtain ⟨L, hL⟩ : ∃ L, L = bI s ++ List.replicate (64 - s.size) 0 := ⟨_, rfl⟩
  have HB1 : Hid (Blk w1 w.heap.size 91 (u8s (maskT (bI s) mk 0 ++ L.drop 0))) := by
    have := hb1.out
    rw [hL]
    exact this
  have HG1 := hg1
  have HLL := Lib.hid (show L.length = 64 from by rw [hL]; simp [bI_len]; omega)
  have HLG := Lib.hid (show ∀ j, L.getD j 0 = (bI s).getD j 0 from fun j => by
    rw [hL]
    by_cases hj : j < (bI s).length
    · simp [List.getElem?_append_left hj]
    · have h2 : (bI s)[j]? = none := List.getElem?_eq_none (by omega)
      simp only [List.getD_eq_getElem?_getD, List.getElem?_append_right (Nat.le_of_not_lt hj), h2]
      cases hq : (List.replicate (64 - s.size) (0 : Int))[j - (bI s).length]? with
      | none => rfl
      | some x => have := List.mem_of_getElem? hq; simp at this; simp [this])
  clear hb1 hg1 hL
  go_loopw [10] (fun i wr => ∃ k : Nat, k ≤ 64 ∧ i = .int .i64 k ∧ Blk wr w.heap.size 91 (u8s (maskT (bI s) mk k ++ L.drop k)) ∧ w.grownBy wr none) (fun i _ => 64 - (intOf i).toNat)
  case atStart => exact ⟨0, by omega, rfl, HB1.out, HG1.out⟩
  case round =>
    obtain ⟨k, hk, rfl, hb, hg⟩ := hrel
    have HB := Lib.hid hb
    have HG := Lib.hid hg
    have hlt := hb.lt
    clear hb hg
    by_cases hk64 : k < 64
    · obtain ⟨c, hc⟩ : ∃ c, c = (bI s).getD k 0 := ⟨_, rfl⟩
      have hkL : k < L.length := by rw [HLL.out]; exact hk64
      have d1 : wr.cell? ⟨w.heap.size, k, none⟩ = some (.int .u8 c) := by
        refine HB.out.cell ?_
        rw [hc, ← HLG.out k]
        simp [u8s, List.getElem?_append_right, maskT_len, hkL]
      have d2 := HB.out.frozen k
      have HC := Lib.hid hc
      have hkI : (k : Int) < 64 := by omega
      clear hc
      go_wp2
      go_roundw
      case rel =>
        refine ⟨k + 1, by omega, by go_num, ?_, grown_into HG.out (grown_set (grown_refl _ _) k _) (Nat.le_refl _)⟩
        have := HB.out.set k (.int .u8 (bits .xor .u8 c mk))
        rw [HC.out, mask_step _ mk L k hkL] at this
        rw [HC.out]
        exact this
      case measure => simp [intOf]; omega
    · obtain rfl : k = 64 := by omega
      have hbk := HB.out
      rw [List.drop_of_length_le (by rw [HLL.out]; omega), List.append_nil] at hbk
      have hP : (padK (bI s) mk).length = 64 := padK_len _ _
      have hcells : ∀ j (hj : j < (toB (padK (bI s) mk)).length), wr.cell? ((⟨w.heap.size, 0, none⟩ : Addr).add j) = some (.int .u8 ((toB (padK (bI s) mk))[j].toNat : Int)) := fun j hj => by
        have hj' : j < (padK (bI s) mk).length := by rwa [toB_len] at hj
        rw [Addr.add_mid, Nat.zero_add, toB_get (padK (bI s) mk) (maskT_b _ (bI_b s) mk hm0 hm1 64) j hj]
        exact hbk.cell (u8s_get hj')
      have hcv := run_convert_bytes_back (P := Tryz.prog) wr 65 9 5 ⟨w.heap.size, 0, none⟩ 64 (toB (padK (bI s) mk)) Tryz.underlying65 Tryz.underlying5 Tryz.underlying9 hcells
      rw [toB_len, hP] at hcv
      clear hcells hbk hP
      go_wp2
      go_ret
      exact ⟨rfl, HG.out⟩

set_option maxRecDepth 100000 in
set_option maxHeartbeats 1000000 in
theorem specPad_walk (w : World) (s : ByteArray) (hs : s.size ≤ 64) (mk : Int) (hm0 : 0 ≤ mk) (hm1 : mk < 256) :
    Calls Tryz.prog 52 #[.string s, .int .u8 mk] w fun e w' => e = .returned (.string (strI (padK (bI s) mk))) ∧ w.grownBy w' none := by
  obtain ⟨i5, hi5, hz0, hz1, hz2⟩ := info_parts info5
  have hsI : (s.size : Int) ≤ 64 := by omega
  go_enter Tryz.func52, Tryz.ntmps52
  go_wp2
  go_loopw [5, 6] (fun v i wr => ∃ k : Nat, k ≤ 64 ∧ i = .int .i64 k ∧ Row wr w.heap.size v (u8s (maskT (bI s) mk k)) ∧ w.grownBy wr none) (fun _ i _ => 64 - (intOf i).toNat)
  case atStart => exact ⟨0, Nat.zero_le _, rfl, Row.lit w 5 [], grown_alloc (grown_refl _ _) _⟩
  case round =>
    obtain ⟨k, hk, rfl, hrow, hg⟩ := hrel
    have HROW := Lib.hid hrow
    have HG := Lib.hid hg
    have hws := hg.size
    have HLK := Lib.hid (show (u8s (maskT (bI s) mk k)).length = k from by rw [List.length_map, maskT_len])
    clear hrow hg
    by_cases hlt : k < 64
    · obtain ⟨c, hcx⟩ : ∃ c, c = (bI s).getD k 0 := ⟨_, rfl⟩
      have hkI : (k : Int) < 64 := by omega
      by_cases hks : k < s.size
      · have hat : ∀ W, (Instr.index 9 (.string s) (.int .i64 k)).run Tryz.prog W = .ok (.int .u8 c) W := fun W => by rw [hcx]; exact run_at s k hks W
        have HX := Lib.hid hcx
        have hdk : decide ((k : Int) < (s.size : Int)) = true := by simp; omega
        clear hcx
        go_wp2_with (at_builtin; refine wpList_append_row rfl _ _ 65 rfl 5 i5 (.int .u8 0) 1 Tryz.underlying65 hi5 hz0 hz1 hz2 rfl w.heap.size _ (u8s (maskT (bI s) mk k)) rfl (HROW.out.alloc _) ⟨wr.heap.size, 0, none⟩ 1 1 (u8s [bits .xor .u8 c mk]) rfl rfl (news_new wr 5 (u8s [bits .xor .u8 c mk])) (u8s_one _) (by rw [HLK.out]; unfold maxLen; omega) (by rw [HLK.out]; omega) (by simp; omega) ?_; intro v1 w1 hrow1 hg1)
        all_goals
          clear hat
          go_wp2
          go_roundw
          case rel =>
            refine ⟨k + 1, by omega, by go_num, ?_, grown_own (grown_alloc HG.out _) hg1.out (fun q hq => (HROW.out.lt q hq).1)⟩
            have := hrow1.out
            rw [← List.map_append, HX.out, ← maskT_succ] at this
            exact this
          case measure => simp [intOf]; omega
      · have hdk : decide ((k : Int) < (s.size : Int)) = false := by simp; omega
        have hc0 : c = 0 := by
          rw [hcx]
          have : (bI s)[k]? = none := List.getElem?_eq_none (by rw [bI_len]; omega)
          simp [this]
        rw [hc0] at hcx
        have HX := Lib.hid hcx
        clear hcx hc0
        go_wp2_with (at_builtin; refine wpList_append_row rfl _ _ 65 rfl 5 i5 (.int .u8 0) 1 Tryz.underlying65 hi5 hz0 hz1 hz2 rfl w.heap.size _ (u8s (maskT (bI s) mk k)) rfl (HROW.out.alloc _) ⟨wr.heap.size, 0, none⟩ 1 1 (u8s [bits .xor .u8 0 mk]) rfl rfl (news_new wr 5 (u8s [bits .xor .u8 0 mk])) (u8s_one _) (by rw [HLK.out]; unfold maxLen; omega) (by rw [HLK.out]; omega) (by simp; omega) ?_; intro v1 w1 hrow1 hg1)
        all_goals
          go_wp2
          go_roundw
          case rel =>
            refine ⟨k + 1, by omega, by go_num, ?_, grown_own (grown_alloc HG.out _) hg1.out (fun q hq => (HROW.out.lt q hq).1)⟩
            have := hrow1.out
            rw [← List.map_append, HX.out, ← maskT_succ] at this
            exact this
          case measure => simp [intOf]; omega
    · obtain rfl : k = 64 := by omega
      have hO : (padK (bI s) mk).length = 64 := padK_len _ _
      have hrow : Row wr w.heap.size _ (u8s (padK (bI s) mk)) := HROW.out
      rcases hrow with ⟨_, h0⟩ | ⟨g2, cap2, rfl, hb2, hl2, hn2, hc2, _⟩
      · have : padK (bI s) mk = [] := by simpa using h0
        rw [this] at hO; simp at hO
      rw [List.length_map, hO] at hn2 hc2 ⊢
      have hcells : ∀ j (hj : j < (toB (padK (bI s) mk)).length), wr.cell? ((⟨g2, 0, none⟩ : Addr).add j) = some (.int .u8 ((toB (padK (bI s) mk))[j].toNat : Int)) := fun j hj => by
        have hj' : j < (padK (bI s) mk).length := by rwa [toB_len] at hj
        rw [Addr.add_mid, Nat.zero_add, toB_get (padK (bI s) mk) (maskT_b _ (bI_b s) mk hm0 hm1 64) j hj, hc2 j (by omega)]
        exact u8s_get hj'
      have hcv := run_convert_bytes_back (P := Tryz.prog) wr 65 9 5 ⟨g2, 0, none⟩ cap2 (toB (padK (bI s) mk)) Tryz.underlying65 Tryz.underlying5 Tryz.underlying9 hcells
      rw [toB_len, hO] at hcv
      clear hcells hc2 hO
      go_wp2
      go_ret
      exact ⟨rfl, HG.out⟩

end Go.Proofs.YtecekbhkombnnaaGreatDoor
