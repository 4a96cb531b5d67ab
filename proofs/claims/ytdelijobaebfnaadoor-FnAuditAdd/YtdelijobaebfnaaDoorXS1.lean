import Derived.Test.YtdelijobaebfnaaDoorXH7
import Derived.Test.YtdelijobaebfnaaDoorR0
namespace Go.Proofs.YtdelijobaebfnaaDoor
open Go.RowKit

theorem or_comm32 (a b : Int) : bits .or .u32 a b = bits .or .u32 b a := by simp [bits, BitVec.or_comm]

set_option maxRecDepth 100000 in
set_option maxHeartbeats 400000 in
theorem turn_nat (x : Int) (w : World) (r : Nat) (h1 : 1 ≤ r) (h2 : r ≤ 31) : Calls Tryd.prog 83 #[.int .u32 x, .int .i64 (r : Int)] w fun e w' => e = .returned (.int .u32 (ror x r)) ∧ ∃ k, w' = w.drewN k := by
  have i1 : (r : Int) ≤ 31 := by omega
  go_enter Tryd.func83, Tryd.ntmps83
  go_wp2
  go_quiet (fail)
  go_wp2
  go_ret
  refine ⟨ret_int ?_, _, rfl⟩
  rw [ror, or_comm32]

set_option maxRecDepth 100000 in
set_option maxHeartbeats 400000 in
theorem consts_any (w : World) : Calls Tryd.prog 82 #[] w fun e w' => e = .returned (.slice (some ⟨w.heap.size, 0, none⟩) 64 64) ∧ w' = w.alloc (.cells (u32s K0).toArray 89) := by
  go_enter Tryd.func82, Tryd.ntmps82
  go_wp2
  go_ret
  exact ⟨rfl, rfl⟩

def lenV : Value → Nat
  | .slice _ n _ => n
  | _ => 0
theorem Row.form {w : World} {base : Nat} {v : Value} {xs : List Value} (h : Row w base v xs) (hx : 0 < xs.length) : ∃ g cap, v = .slice (some ⟨g, 0, none⟩) xs.length cap ∧ xs.length ≤ cap := by
  rcases h with ⟨_, rfl⟩ | ⟨g, cap, rfl, _, _, hc, _⟩
  · simp at hx
  · exact ⟨g, cap, rfl, hc⟩
/-- the bytes of the length, the greatest first: k of them -/
def lensTo (n : Nat) : Nat → List Int
  | 0 => []
  | k + 1 => lensTo n k ++ [lenB n k]
theorem lensTo_len (n : Nat) : ∀ k, (lensTo n k).length = k
  | 0 => rfl
  | k + 1 => by rw [lensTo, List.length_append, lensTo_len n k]; rfl
theorem fill_eq (n z : Nat) : ∀ k, k ≤ 8 → fillTo n z k = 128 :: (List.replicate z 0 ++ (lensTo n k ++ List.replicate (8 - k) 0))
  | 0, _ => by show 128 :: List.replicate (z + 8) 0 = _; rw [← List.replicate_append_replicate]; rfl
  | k + 1, h => by
    rw [fillTo, fill_eq n z k (by omega)]
    have e : List.replicate (8 - k) (0 : Int) = 0 :: List.replicate (8 - (k + 1)) 0 := by
      rw [show 8 - k = (8 - (k + 1)) + 1 from by omega, List.replicate_succ]
    rw [e, show 1 + z + k = (z + k) + 1 from by omega, List.set_cons_succ, List.set_append_right _ _ (by simp), List.set_append_right _ _ (by simp [lensTo_len])]
    simp [lensTo, lensTo_len]
theorem padI_eq (m : List Int) : padI m = m ++ 128 :: (List.replicate ((119 - m.length % 64) % 64) 0 ++ lensTo m.length 8) := by
  rw [padI, fill_eq _ _ 8 (Nat.le_refl _)]; simp

set_option maxRecDepth 100000 in
set_option maxHeartbeats 1000000 in
theorem padded_walk (w : World) (s : ByteArray) (hs : s.size ≤ 4194304) : Calls Tryd.prog 71 #[.string s] w fun e w' => ∃ v, e = .returned v ∧ Row w' w.heap.size v (u8s (padI (bI s))) ∧ w.grownBy w' none := by
  have hcv := fun (W : World) (s : ByteArray) => Lib.run_convert_string_bytes (P := Tryd.prog) W 9 22 5 s Tryd.underlying9 Tryd.underlying22 Tryd.underlying5
  obtain ⟨i5, hi5, hz0, hz1, hz2⟩ := info_parts info5
  have hr0 := Row.bytes w 5 s
  have hr1 : Row (Lib.bytesWorld w 5 s) w.heap.size (.slice (some ⟨w.heap.size, 0, none⟩) s.size (grownCap w s.size 0 5)) (u8s (bI s)) := by simpa [u8s, bI, Function.comp_def] using hr0
  have HR1 := Lib.hid hr1
  clear hr0 hr1
  have hbl := bI_len s
  go_enter Tryd.func71, Tryd.ntmps71
  go_wp2_with (at_builtin; refine wpList_append_row rfl _ _ 22 rfl 5 i5 (.int .u8 0) 1 Tryd.underlying22 hi5 hz0 hz1 hz2 rfl w.heap.size _ (u8s (bI s)) rfl (HR1.out.alloc _) ⟨(Lib.bytesWorld w 5 s).heap.size, 0, none⟩ 1 1 (u8s [128]) rfl rfl (news_new _ 5 (u8s [128])) (u8s_one _) (by simp [hbl]; unfold maxLen; omega) (by simp [hbl]; omega) (by simp [Lib.bytesWorld_size]; omega) ?_; intro v1 w1 hrow1 hg1)
  obtain ⟨m, hm⟩ : ∃ m, m = bI s := ⟨_, rfl⟩
  obtain ⟨n, hn⟩ : ∃ n, n = s.size := ⟨_, rfl⟩
  obtain ⟨z, hz⟩ : ∃ z, z = (119 - n % 64) % 64 := ⟨_, rfl⟩
  have hml : m.length = n := by rw [hm, hbl, hn]
  have hz64 : z < 64 := by omega
  have hg0 : w.grownBy w1 none := grown_own (grown_alloc (grown_bytes w 5 s none) _) hg1.out (fun q hq => (HR1.out.lt q hq).1)
  have HG0 := Lib.hid hg0
  have HR2 : Hid (Row w1 w.heap.size v1 (u8s (m ++ 128 :: List.replicate 0 0))) := by have := hrow1.out; rw [← List.map_append, ← hm] at this; exact this
  have HE := Lib.hid (And.intro hm (And.intro hn hz))
  have hnb : n ≤ 4194304 := by omega
  have hsn : s.size ≤ 4194304 := hs
  clear hg0 hrow1 hg1 hbl HR1 hm hn hz
  go_loopw [3] (fun v wr => ∃ k : Nat, k ≤ z ∧ Row wr w.heap.size v (u8s (m ++ 128 :: List.replicate k 0)) ∧ w.grownBy wr none) (fun v _ => n + 1 + z - lenV v)
  case atStart => exact ⟨0, Nat.zero_le _, HR2.out, HG0.out⟩
  case round =>
    obtain ⟨k, hk, hrow, hg⟩ := hrel
    obtain ⟨g, cap, rfl, hcap⟩ := hrow.form (by simp; omega)
    have hl : (u8s (m ++ 128 :: List.replicate k 0)).length = n + 1 + k := by simp [hml]; omega
    rw [hl] at hrow ⊢
    have HROW := Lib.hid hrow
    have HG := Lib.hid hg
    have hws := hg.size
    have HL := Lib.hid hl
    clear hrow hg hl hcap
    by_cases hkz : k < z
    · have ht : (((n + 1 + k : Nat) : Int) % 64 != 56) = true := by have := HE.out.2.2; rw [bne_iff_ne]; omega
      go_wp2_with (at_builtin; refine wpList_append_row rfl _ _ 22 rfl 5 i5 (.int .u8 0) 1 Tryd.underlying22 hi5 hz0 hz1 hz2 rfl w.heap.size _ (u8s (m ++ 128 :: List.replicate k 0)) rfl (HROW.out.alloc _) ⟨wr.heap.size, 0, none⟩ 1 1 (u8s [0]) rfl rfl (news_new _ 5 (u8s [0])) (u8s_one _) (by rw [HL.out]; unfold maxLen; omega) (by rw [HL.out]; omega) (by simp; omega) ?_; intro v2 w2 hrow2 hg2)
      have hr3 : Row w2 w.heap.size v2 (u8s (m ++ 128 :: List.replicate (k + 1) 0)) := by
        have := hrow2.out
        rw [← List.map_append] at this
        simpa [List.replicate_succ'] using this
      refine ⟨⟨k + 1, by omega, hr3, grown_own (grown_alloc HG.out _) hg2.out (fun q hq => (HROW.out.lt q hq).1)⟩, ?_⟩
      obtain ⟨g3, cap3, rfl, _⟩ := hr3.form (by simp; omega)
      simp [lenV, hml]; omega
    · obtain rfl : k = z := by omega
      have hq56 : (n + 1 + k) % 64 = 56 := by have := HE.out.2.2; omega
      obtain ⟨q, hq⟩ : ∃ q, q = n + 1 + k := ⟨_, rfl⟩
      rw [← hq] at hq56 ⊢
      have ht : (q : Int) % 64 = 56 := by omega
      have HQ := Lib.hid hq
      clear hq hq56
      go_wp2
      have HR4 := Lib.hid (show Row wr w.heap.size (.slice (some ⟨g, 0, none⟩) q cap) (u8s (m ++ 128 :: (List.replicate k 0 ++ lensTo n 0))) from by
        have := HROW.out
        rw [HQ.out]
        simpa [lensTo] using this)
      have hkz64 := hz64
      clear HROW ht
      go_loopw [3, 5] (fun v i wr => ∃ j : Nat, j ≤ 8 ∧ i = .int .i64 (7 - (j : Int)) ∧ Row wr w.heap.size v (u8s (m ++ 128 :: (List.replicate k 0 ++ lensTo n j))) ∧ w.grownBy wr none) (fun _ i _ => (intOf i + 1).toNat)
      case atStart => exact ⟨0, Nat.zero_le _, rfl, HR4.out, HG.out⟩
      case round =>
        obtain ⟨j, hj, rfl, hrow, hgr⟩ := hrel
        have hws2 := hgr.size
        have hxl : (u8s (m ++ 128 :: (List.replicate k 0 ++ lensTo n j))).length = n + 1 + k + j := by simp [hml, lensTo_len]; omega
        have HXL := Lib.hid hxl
        have HROW := Lib.hid hrow
        have HGR := Lib.hid hgr
        clear hxl hrow hgr
        by_cases hj8 : j < 8
        · obtain ⟨p, hp⟩ : ∃ p, p = 7 - j := ⟨_, rfl⟩
          have hp7 : p ≤ 7 := by omega
          have hpi : (7 : Int) - (j : Int) = (p : Int) := by omega
          rw [hpi]
          have HP := Lib.hid hp
          clear hp hpi
          go_wp2_with (at_builtin; refine wpList_append_row rfl _ _ 22 rfl 5 i5 (.int .u8 0) 1 Tryd.underlying22 hi5 hz0 hz1 hz2 rfl w.heap.size _ (u8s (m ++ 128 :: (List.replicate k 0 ++ lensTo n j))) rfl (HROW.out.alloc _) ⟨wr.heap.size, 0, none⟩ 1 1 (u8s [(s.size : Int) * 8 / 2 ^ (8 * p) % 256]) rfl rfl (news_new _ 5 (u8s [(s.size : Int) * 8 / 2 ^ (8 * p) % 256])) (u8s_one _) (by rw [HXL.out]; unfold maxLen; omega) (by rw [HXL.out]; omega) (by simp; omega) ?_; intro v2 w2 hrow2 hg2)
          have hr5 : Row w2 w.heap.size v2 (u8s (m ++ 128 :: (List.replicate k 0 ++ lensTo n (j + 1)))) := by
            have := hrow2.out
            rw [← List.map_append, ← HE.out.2.1, show 8 * p = 56 - 8 * j from by have := HP.out; omega] at this
            simpa [lensTo, lenB] using this
          refine ⟨⟨j + 1, by omega, by have := HP.out; congr 1; omega, hr5, grown_own (grown_alloc HGR.out _) hg2.out (fun q hq => (HROW.out.lt q hq).1)⟩, ?_⟩
          simp [intOf]
        · obtain rfl : j = 8 := by omega
          have hneg : (7 : Int) - ((8 : Nat) : Int) = -1 := by omega
          rw [hneg]
          go_wp2
          go_ret
          refine ⟨_, rfl, ?_, HGR.out⟩
          obtain ⟨hm, hn, hz⟩ := HE.out
          rw [← hm, padI_eq, hml, ← hz]
          exact HROW.out

end Go.Proofs.YtdelijobaebfnaaDoor
