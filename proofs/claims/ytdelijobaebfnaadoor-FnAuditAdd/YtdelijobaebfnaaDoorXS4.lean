import Derived.Test.YtdelijobaebfnaaDoorXS3
namespace Go.Proofs.YtdelijobaebfnaaDoor
open Go.RowKit

def blocksS (P : List Int) : Nat → List Int
  | 0 => H0
  | t + 1 => compS (blocksS P t) ((P.drop (64 * t)).take 64)
theorem compS_len (S B : List Int) : (compS S B).length = 8 := addS_len _ _ 8
theorem blocksS_len (P : List Int) : ∀ t, (blocksS P t).length = 8
  | 0 => rfl
  | _ + 1 => compS_len _ _
theorem lenB_b (n i : Nat) : 0 ≤ lenB n i ∧ lenB n i < 256 := by
  unfold lenB
  exact ⟨Int.emod_nonneg _ (by decide), Int.emod_lt_of_pos _ (by decide)⟩
theorem lensTo_b (n : Nat) : ∀ k, B8 (lensTo n k)
  | 0 => fun x hx => by simp [lensTo] at hx
  | k + 1 => fun x hx => by
    rw [lensTo, List.mem_append] at hx
    rcases hx with hx | hx
    · exact lensTo_b n k x hx
    · simp at hx; subst hx; exact lenB_b n k
theorem bI_b (s : ByteArray) : B8 (bI s) := fun x hx => by
  obtain ⟨b, _, rfl⟩ := List.mem_map.1 hx
  have := b.toNat_lt
  simp at this ⊢; omega
theorem padI_b (m : List Int) (h : B8 m) : B8 (padI m) := fun x hx => by
  rw [padI_eq, List.mem_append] at hx
  rcases hx with hx | hx
  · exact h x hx
  · rcases List.mem_cons.1 hx with rfl | hx
    · decide
    · rcases List.mem_append.1 hx with hx | hx
      · obtain ⟨_, rfl⟩ := List.mem_replicate.1 hx; decide
      · exact lensTo_b _ _ x hx
theorem B8.cut {m : List Int} (h : B8 m) (a b : Nat) : B8 ((m.drop a).take b) := fun x hx => h x (List.mem_of_mem_drop (List.mem_of_mem_take hx))

set_option maxRecDepth 100000 in
set_option maxHeartbeats 1000000 in
theorem specSum_walk (w : World) (s : ByteArray) (hs : s.size ≤ 4194304) :
    Calls Tryd.prog 57 #[.string s] w fun e w' => e = .returned (.string (strI (out4 (blocksS (padI (bI s)) ((padI (bI s)).length / 64))))) ∧ w.grownBy w' none := by
  obtain ⟨i5, hi5, hz0, hz1, hz2⟩ := info_parts info5
  go_enter Tryd.func57, Tryd.ntmps57
  go_wp2_with fail
  refine (padded_walk _ s hs).mono ?_
  rintro e w1 ⟨v4, rfl, hrow4, hg4⟩
  obtain ⟨P, hP⟩ : ∃ P, P = padI (bI s) := ⟨_, rfl⟩
  rw [← hP] at hrow4
  have hPl : P.length % 64 = 0 := by rw [hP]; exact padI_len _
  have hPb : P.length ≤ 4194304 + 200 := by rw [hP, padI_eq]; simp [lensTo_len, bI_len]; omega
  have hP8 : B8 P := by rw [hP]; exact padI_b _ (bI_b s)
  have hP0 : 0 < P.length := by rw [hP, padI_eq]; simp; omega
  rcases hrow4 with ⟨_, h0⟩ | ⟨gb, cb, rfl, hb4, hl4, hn4, hc4, hf4⟩
  · have : P = [] := by simpa using h0
    rw [this] at hP0; simp at hP0
  rw [List.length_map] at hn4 hc4 ⊢
  have hcb : ∀ j, j < P.length → w1.cell? ⟨gb, j, none⟩ = some (.int .u8 (P.getD j 0)) := fun j hj => (hc4 j hj).trans (u8s_get hj)
  have HCB := Lib.hid hcb
  have HP8 := Lib.hid hP8
  have HP := Lib.hid hP
  have HG4 := Lib.hid hg4
  have HRH := Lib.hid (show Row w1 w.heap.size (.slice (some ⟨w.heap.size, 0, none⟩) 8 8) (u32s (blocksS P 0)) from (Row.lit w 89 (u32s H0)).kept hg4 (by simp))
  have HG0 := Lib.hid (show w.grownBy w1 none from grown_trans (World.grownBy_alloc w _ none) hg4)
  have hgbw : w.heap.size ≤ gb := by simp at hb4; omega
  clear hcb hP8 hP hg4 hc4 HG4 hf4 hb4
  go_wp2
  go_loopw [3, 5] (fun v i wr => ∃ t : Nat, 64 * t ≤ P.length ∧ i = .int .i64 ((64 * t : Nat) : Int) ∧ Row wr w.heap.size v (u32s (blocksS P t)) ∧ w1.grownBy wr none) (fun _ i _ => P.length - (intOf i).toNat)
  case atStart => exact ⟨0, by omega, rfl, HRH.out, grown_refl _ _⟩
  case round =>
    obtain ⟨t, ht, rfl, hrow, hg⟩ := hrel
    have hbl := blocksS_len P t
    obtain ⟨S, hS⟩ : ∃ S, S = blocksS P t := ⟨_, rfl⟩
    rw [← hS] at hrow hbl
    obtain ⟨i, hi⟩ : ∃ i, i = 64 * t := ⟨_, rfl⟩
    rw [← hi] at ht ⊢
    rcases hrow with ⟨_, h0⟩ | ⟨gh, ch, rfl, hbh, hlh, hnh, hch, hfh⟩
    · have : S = [] := by simpa using h0
      rw [this] at hbl; simp at hbl
    rw [List.length_map, hbl] at hnh hch ⊢
    have cH : ∀ j, j < 8 → wr.cell? ⟨gh, j, none⟩ = some (.int .u32 (S.getD j 0)) := fun j hj => (hch j hj).trans (u32s_get (by omega))
    have HCH := Lib.hid cH
    have HG := Lib.hid hg
    have HS := Lib.hid hS
    have HI := Lib.hid hi
    clear cH hg hS hi hch hfh
    by_cases hlt : i < P.length
    · have hi64 : i + 64 ≤ P.length := by have := HI.out; omega
      have hIB : ((i : Int) + 64) ≤ (P.length : Int) := by omega
      have hbk := specBlock_walk wr S ((P.drop i).take 64) hbl gh ch gb i (cb - i) (fun j hj => by
        rw [HG.out.cell (HCB.out (i + j) (by omega)) (by simp)]
        simp only [List.getD_eq_getElem?_getD, List.getElem?_take, List.getElem?_drop]
        rw [if_pos hj]) HCH.out
      have HBK := Lib.hid hbk
      clear hbk
      go_wp2_with fail
      refine HBK.out.mono ?_
      rintro e w2 ⟨v2, rfl, hrow2, hg2⟩
      have HR2 := Lib.hid hrow2
      have HG2 := Lib.hid hg2
      clear hrow2 hg2
      go_wp2
      go_roundw
      case rel =>
        have hi := HI.out
        refine ⟨t + 1, by omega, by congr 1; omega, ?_, grown_trans HG.out HG2.out⟩
        have := HR2.out.base (show w.heap.size ≤ wr.heap.size from Nat.le_trans HG0.out.size HG.out.size)
        rw [hi, HS.out] at this
        exact this
      case measure => simp [intOf]; omega
    · have hiP : i = P.length := by omega
      have hS8 : S.length = 8 := hbl
      have HIP := Lib.hid hiP
      have hrg := hlh
      clear hiP
      obtain ⟨wo, rfl⟩ : ∃ wo : World, wo = wr := ⟨_, rfl⟩
      have hdk : decide ((i : Int) < (P.length : Int)) = false := by simp; omega
      go_wp2
      go_loopw [6, 7] (fun v i wr => ∃ j : Nat, j ≤ 8 ∧ i = .int .i64 j ∧ Row wr wo.heap.size v (u8s (out4 (S.take j))) ∧ wo.grownBy wr none) (fun _ i _ => 8 - (intOf i).toNat)
      case atStart => exact ⟨0, Nat.zero_le _, rfl, Row.lit wo 5 [], grown_alloc (grown_refl _ _) _⟩
      case round =>
        obtain ⟨j, hj, rfl, hrow, hg⟩ := hrel
        have HRJ := Lib.hid hrow
        have HGJ := Lib.hid hg
        have hws := hg.size
        have HLJ := Lib.hid (show (u8s (out4 (S.take j))).length = 4 * j from by rw [List.length_map, out4_len, List.length_take]; omega)
        clear hrow hg
        by_cases hj8 : j < 8
        · have d1 := HGJ.out.cell (HCH.out j hj8) (by simp)
          obtain ⟨x, hx⟩ : ∃ x, x = S.getD j 0 := ⟨_, rfl⟩
          rw [← hx] at d1
          have HX := Lib.hid hx
          have hj8I : (j : Int) < 8 := by omega
          clear hx
          go_wp2
          go_region_held3 (fun w' => w'.cell? ⟨gh, j, none⟩ = some (.int .u32 x)) (go_keep) ((refine step_append_row (by rfl) _ _ 22 (by rfl) 5 i5 (.int .u8 0) 1 Tryd.underlying22 hi5 hz0 hz1 hz2 rfl wo.heap.size _ (u8s (out4 (S.take j))) (by rfl) (HRJ.out.alloc _) ⟨wr.heap.size, 0, none⟩ 4 4 (u8s [IntKind.u8.wrap (x / 16777216), IntKind.u8.wrap (x / 65536), IntKind.u8.wrap (x / 256), IntKind.u8.wrap x]) (by rfl) rfl (news_new wr 5 (u8s [IntKind.u8.wrap (x / 16777216), IntKind.u8.wrap (x / 65536), IntKind.u8.wrap (x / 256), IntKind.u8.wrap x])) (u8s_one _) (by rw [HLJ.out]; unfold maxLen; omega) (by rw [HLJ.out]; omega) (by simp; omega) ?_; intro v1 w4 hrow1 hg1; have c0 := row_keep HRJ.out hg1.out hlh d1))
          clear d1 c0
          go_wp2
          go_roundw
          case rel =>
            refine ⟨j + 1, by omega, by go_num, ?_, grown_own (grown_drew (grown_alloc HGJ.out _)) hg1.out (fun q hq => (HRJ.out.lt q hq).1)⟩
            have := hrow1.out
            rw [← List.map_append, show [IntKind.u8.wrap (x / 16777216), IntKind.u8.wrap (x / 65536), IntKind.u8.wrap (x / 256), IntKind.u8.wrap x] = word4 x from by simp only [word4, IntKind.wrap_u8'], HX.out, ← out4_take S j (by omega)] at this
            exact this
          case measure => simp [intOf]; omega
        · obtain rfl : j = 8 := by omega
          have hO : (out4 S).length = 32 := by rw [out4_len, hS8]
          have hrow := HRJ.out
          rw [List.take_of_length_le (by omega)] at hrow
          rcases hrow with ⟨_, h0⟩ | ⟨g2, cap2, rfl, hb2, hl2, hn2, hc2, _⟩
          · have : out4 S = [] := by simpa using h0
            rw [this] at hO; simp at hO
          rw [List.length_map, hO] at hn2 hc2 ⊢
          have hcells : ∀ j (hj : j < (toB (out4 S)).length), wr.cell? ((⟨g2, 0, none⟩ : Addr).add j) = some (.int .u8 ((toB (out4 S))[j].toNat : Int)) := fun j hj => by
            have hj' : j < (out4 S).length := by rwa [toB_len] at hj
            rw [Addr.add_mid, Nat.zero_add, toB_get _ (out4_b S) j hj, hc2 j (by omega)]
            exact u8s_get hj'
          have hcv := run_convert_bytes_back (P := Tryd.prog) wr 22 9 5 ⟨g2, 0, none⟩ cap2 (toB (out4 S)) Tryd.underlying22 Tryd.underlying5 Tryd.underlying9 hcells
          rw [toB_len, hO] at hcv
          clear hcells hc2
          go_wp2
          go_ret
          have hwo : w.grownBy wo none := grown_trans HG0.out HG.out
          refine ⟨?_, grown_own hwo HGJ.out (fun q hq => by cases hq)⟩
          rw [← HP.out, show P.length / 64 = t from by have := HI.out; have := HIP.out; omega, ← HS.out]
          rfl

end Go.Proofs.YtdelijobaebfnaaDoor
