import Derived.Test.YtdelijobaebfnaaDoorXS2
import Derived.Deep.CutRange
namespace Go.Proofs.YtdelijobaebfnaaDoor
open Go.RowKit

theorem Row.store {w : World} {base g n cap : Nat} {xs : List Value} (h : Row w base (.slice (some ⟨g, 0, none⟩) n cap) xs) (j : Nat) (hj : j < xs.length) (u : Value) : Row (w.setCell ⟨g, j, none⟩ u) base (.slice (some ⟨g, 0, none⟩) n cap) (xs.set j u) := by
  rcases h with ⟨h, _⟩ | ⟨g', cap', hv, hb, hl, hn, hc, hf⟩
  · cases h
  · simp only [Value.slice.injEq, Option.some.injEq, Addr.mk.injEq] at hv
    obtain ⟨⟨rfl, _, _⟩, rfl, rfl⟩ := hv
    refine .inr ⟨g, cap, by simp, hb, by simpa [World.setCell] using hl, by simpa using hn, fun q hq => ?_, fun q hq => ?_⟩
    · by_cases e : q = j
      · subst e
        obtain ⟨v, hv⟩ := Option.isSome_iff_exists.1 (hf q (by omega)).1
        rw [World.cell?_setCell_same _ _ _ hv, List.getElem?_set_self (by omega)]
      · rw [World.cell?_setCell_other _ _ _ _ (by intro h; simp only [Addr.mk.injEq] at h; omega), List.getElem?_set_ne (by omega)]
        exact hc q (by simpa using hq)
    · have h1 : ((w.setCell ⟨g, j, none⟩ u).cell? ⟨g, q, none⟩).isSome = true := World.isSome_setCells g [u] j w _ (hf q hq).1
      have h2 := World.frozen?_setCells g [u] j w ⟨g, q, none⟩
      exact ⟨h1, by rw [← (hf q hq).2, ← h2]; rfl⟩

/-- s[j] as data -/
theorem Row.cellAt {w : World} {base g n cap : Nat} {xs : List Value} (h : Row w base (.slice (some ⟨g, 0, none⟩) n cap) xs) {j : Nat} {v : Value} (hv : xs[j]? = some v) : w.cell? ⟨g, j, none⟩ = some v := by
  rcases h with ⟨h, _⟩ | ⟨g', cap', hv', hb, hl, hn, hc, hf⟩
  · cases h
  · simp only [Value.slice.injEq, Option.some.injEq, Addr.mk.injEq] at hv'
    obtain ⟨⟨rfl, _, _⟩, rfl, rfl⟩ := hv'
    rw [hc j (List.getElem?_eq_some_iff.1 hv).1, hv]
theorem Row.frozenAt {w : World} {base g n cap : Nat} {xs : List Value} (h : Row w base (.slice (some ⟨g, 0, none⟩) n cap) xs) {j : Nat} (hj : j < xs.length) : w.frozen? ⟨g, j, none⟩ = false := by
  rcases h with ⟨h, _⟩ | ⟨g', cap', hv', hb, hl, hn, hc, hf⟩
  · cases h
  · simp only [Value.slice.injEq, Option.some.injEq, Addr.mk.injEq] at hv'
    obtain ⟨⟨rfl, _, _⟩, rfl, rfl⟩ := hv'
    exact (hf j (by omega)).2

/-- a round as the document's model spells it -/
def t1S (s4 s5 s6 s7 k x : Int) : Int := (s7 + bs1 s4 + chh s4 s5 s6 + k + x) % 4294967296
def rndS (S : List Int) (k x : Int) : List Int :=
  [(t1S (S.getD 4 0) (S.getD 5 0) (S.getD 6 0) (S.getD 7 0) k x + bs0 (S.getD 0 0) + mjj (S.getD 0 0) (S.getD 1 0) (S.getD 2 0)) % 4294967296, S.getD 0 0, S.getD 1 0, S.getD 2 0, (S.getD 3 0 + t1S (S.getD 4 0) (S.getD 5 0) (S.getD 6 0) (S.getD 7 0) k x) % 4294967296, S.getD 4 0, S.getD 5 0, S.getD 6 0]
def roundsS (K W S : List Int) : Nat → List Int
  | 0 => S
  | k + 1 => rndS (roundsS K W S k) (K.getD k 0) (W.getD k 0)
theorem roundsS_len (K W S : List Int) (h : S.length = 8) : ∀ k, (roundsS K W S k).length = 8
  | 0 => h
  | _ + 1 => rfl

/-- all places but the first moved on by one: j of them, from the last on -/
def shiftTo (S : List Int) : Nat → List Int
  | 0 => S
  | j + 1 => (shiftTo S j).set (7 - j) ((shiftTo S j).getD (6 - j) 0)
theorem shiftTo_len (S : List Int) : ∀ j, (shiftTo S j).length = S.length
  | 0 => rfl
  | j + 1 => by rw [shiftTo, List.length_set, shiftTo_len S j]

def addS (S S' : List Int) : Nat → List Int
  | 0 => []
  | j + 1 => addS S S' j ++ [IntKind.u32.wrap (S.getD j 0 + S'.getD j 0)]
theorem addS_len (S S' : List Int) : ∀ j, (addS S S' j).length = j
  | 0 => rfl
  | j + 1 => by rw [addS, List.length_append, addS_len S S' j]; rfl
/-- a block let into a sum, as the document's model does it -/
def compS (S B : List Int) : List Int := addS S (roundsS K0 (schedTo (words16 B 16) 48) S 64) 8

set_option maxRecDepth 100000 in
set_option maxHeartbeats 2000000 in
theorem specBlock_walk (w : World) (S B : List Int) (hSl : S.length = 8) (gh ch g o cap : Nat) (hc : ∀ j, j < 64 → w.cell? ⟨g, o + j, none⟩ = some (.int .u8 (B.getD j 0)))
    (hh : ∀ j, j < 8 → w.cell? ⟨gh, j, none⟩ = some (.int .u32 (S.getD j 0))) :
    Calls Tryd.prog 72 #[.slice (some ⟨gh, 0, none⟩) 8 ch, .slice (some ⟨g, o, none⟩) 64 cap] w fun e w' => ∃ v, e = .returned v ∧ Row w' w.heap.size v (u32s (compS S B)) ∧ w.grownBy w' none := by
  have HC := Lib.hid hc
  have HH := Lib.hid hh
  have hghb : gh < w.heap.size := World.block_lt_of_cell? w _ (hh 0 (by omega))
  clear hc hh
  obtain ⟨i5, hi5, hz0, hz1, hz2⟩ := info_parts info50
  go_enter Tryd.func72, Tryd.ntmps72
  go_wp2_with fail
  refine (words_walk w B g o cap HC.out).mono ?_
  rintro e w1 ⟨v1, rfl, hrow1, hg1⟩
  have HR1 := Lib.hid hrow1
  have HG1 := Lib.hid hg1
  clear hrow1 hg1
  go_wp2_with fail
  refine (consts_any w1).mono ?_
  rintro e w2 ⟨rfl, rfl⟩
  have hw1 := HG1.out.size
  have hrc0 : Row ((w1.alloc (.cells (u32s K0).toArray 89)).alloc (.cells #[] 89)) (w1.heap.size + 1) (.slice (some ⟨w1.heap.size + 1, 0, none⟩) 0 0) [] := by
    have := Row.lit (w1.alloc (.cells (u32s K0).toArray 89)) 89 []
    rw [World.size_alloc] at this
    exact this
  have HRC0 := Lib.hid hrc0
  have hcs : ∀ j u, (u32s S)[j]? = some u → ((w1.alloc (.cells (u32s K0).toArray 89)).alloc (.cells #[] 89)).cell? ((⟨gh, 0, none⟩ : Addr).add j) = some u := fun j u hu => by
    rw [Addr.add_mid, Nat.zero_add]
    have hj : j < 8 := by have := (List.getElem?_eq_some_iff.1 hu).1; simpa [hSl] using this
    rw [u32s_get (by omega)] at hu
    rw [← hu]
    exact (World.grownBy_alloc _ _ none).cell ((World.grownBy_alloc _ _ none).cell (HG1.out.cell (HH.out j hj) (by simp)) (by simp)) (by simp)
  have HCS := Lib.hid hcs
  clear hrc0 hcs
  go_wp2_with (at_builtin; refine wpList_append_row rfl _ _ 125 rfl 89 i5 (.int .u32 0) 4 Tryd.underlying125 hi5 hz0 hz1 hz2 rfl (w1.heap.size + 1) (.slice (some ⟨w1.heap.size + 1, 0, none⟩) 0 0) [] rfl HRC0.out ⟨gh, 0, none⟩ 8 ch (u32s S) rfl (by simp [hSl]) HCS.out (u32s_one _) (by unfold maxLen; simp) (by simp) (by simp) ?_; intro v2 w3 hrow2 hg2; refine Hid.out ?_)
  refine Lib.hid ?_
  obtain ⟨gs, cs, rfl, hcs8⟩ := hrow2.out.form (by simp [hSl])
  rw [show (([] : List Value) ++ u32s S).length = 8 from by simp [hSl]] at hrow2 ⊢
  obtain ⟨W, hW⟩ : ∃ W, W = schedTo (words16 B 16) 48 := ⟨_, rfl⟩
  rw [← hW] at HR1
  have hWl : (u32s W).length = 64 := by rw [hW]; simp [schedTo_len, words16_len]
  have hr1 := HR1.out
  rcases hr1 with ⟨_, h0⟩ | ⟨gw, cw, rfl, hbw, hlw, hnw, hcw, _⟩
  · rw [h0] at hWl; simp at hWl
  rw [hWl]
  have hg3 : w1.grownBy w3 none := grown_own (grown_alloc (grown_alloc (grown_refl w1 none) _) _) hg2.out (fun q hq => by simp [Value.ownBlock] at hq; omega)
  have hlt3 : w1.heap.size + 1 ≤ gs := (hrow2.out.lt gs rfl).1
  have cW : ∀ j, j < 64 → w3.cell? ⟨gw, j, none⟩ = some (.int .u32 (W.getD j 0)) := fun j hj => hg3.cell ((hcw j (by omega)).trans (u32s_get (by simpa using (by omega : j < (u32s W).length)))) (by simp)
  have cK : ∀ j, j < 64 → w3.cell? ⟨w1.heap.size, j, none⟩ = some (.int .u32 (K0.getD j 0)) := fun j hj =>
    hg2.out.cell (World.grownBy.cell (World.grownBy_alloc _ _ none) ((Blk.new w1 89 (u32s K0)).cell (u32s_get (show j < K0.length from hj))) (by simp)) (by simp [Value.ownBlock])
  have HW3 := Lib.hid (And.intro cW (And.intro cK (grown_trans HG1.out hg3)))
  have HWE := Lib.hid hW
  have HROW := Lib.hid (show Row w3 (w1.heap.size + 1) (.slice (some ⟨gs, 0, none⟩) 8 cs) (u32s S) from hrow2.out)
  clear hW hrow2 hg2 hg3 cW cK hcw hWl HRC0 HCS
  go_wp2
  go_loopw [8] (fun i wr => ∃ k : Nat, k ≤ 64 ∧ i = .int .i64 k ∧ Row wr (w1.heap.size + 1) (.slice (some ⟨gs, 0, none⟩) 8 cs) (u32s (roundsS K0 W S k)) ∧ w3.grownBy wr (some gs)) (fun i _ => 64 - (intOf i).toNat)
  case atStart => exact ⟨0, Nat.zero_le _, rfl, HROW.out, grown_refl _ _⟩
  case round =>
    obtain ⟨k, hk, rfl, hrow, hg⟩ := hrel
    have hSk := roundsS_len K0 W S hSl k
    obtain ⟨Sk, hSke⟩ : ∃ Sk, Sk = roundsS K0 W S k := ⟨_, rfl⟩
    rw [← hSke] at hrow hSk
    obtain ⟨s0, s1, s2, s3, s4, s5, s6, s7, rfl⟩ : ∃ s0 s1 s2 s3 s4 s5 s6 s7, Sk = [s0, s1, s2, s3, s4, s5, s6, s7] := ⟨_, _, _, _, _, _, _, _, list8 hSk⟩
    have HSK := Lib.hid hSke
    have HR := Lib.hid hrow
    have HG := Lib.hid hg
    clear hSke hrow hg hSk
    by_cases hlt : k < 64
    · have d0 := HR.out.cellAt (j := 0) rfl
      have d1 := HR.out.cellAt (j := 1) rfl
      have d2 := HR.out.cellAt (j := 2) rfl
      have d4 := HR.out.cellAt (j := 4) rfl
      have d5 := HR.out.cellAt (j := 5) rfl
      have d6 := HR.out.cellAt (j := 6) rfl
      have d7 := HR.out.cellAt (j := 7) rfl
      have dk := HG.out.cell (HW3.out.2.1 k hlt) (by simp; omega)
      have dw := HG.out.cell (HW3.out.1 k hlt) (by simp; omega)
      obtain ⟨kk, hkk⟩ : ∃ kk, kk = K0.getD k 0 := ⟨_, rfl⟩
      obtain ⟨ww, hww⟩ : ∃ ww, ww = W.getD k 0 := ⟨_, rfl⟩
      rw [← hkk] at dk
      rw [← hww] at dw
      have HKW := Lib.hid (And.intro hkk hww)
      clear hkk hww
      have hk64 : (k : Int) < 64 := by omega
      go_wp2
      go_quiet ((go_at_call 83; exact Calls.quiet_of (turn_any _ _ _ (by omega) (by omega))))
      go_wp2
      go_quiet (fail)
      go_wp2
      go_quiet (fail)
      go_wp2
      refine wp_letter (fun wx => (wx.cell? ⟨gs, 0, none⟩ = some (.int .u32 s0) ∧ wx.cell? ⟨gs, 1, none⟩ = some (.int .u32 s1) ∧ wx.cell? ⟨gs, 2, none⟩ = some (.int .u32 s2)) ∧ ∃ n, wx = wr.drewN n) ?_ ?_
      · exact ⟨⟨d0, d1, d2⟩, by first | exact ⟨_, rfl⟩ | (rw [World.drewN_drewN]; exact ⟨_, rfl⟩)⟩
      rintro wx ⟨⟨f0, f1, f2⟩, hwx⟩
      have HWX := Lib.hid hwx
      clear hwx
      go_wp2
      go_quiet ((go_at_call 83; exact Calls.quiet_of (turn_any _ _ _ (by omega) (by omega))))
      go_wp2
      go_quiet (fail)
      go_upto_region 12 with (fail)
      go_cut [9, 10, 11, 12, 13, 14] from 23 to 136 (fun _ _ t a mj n w => (∃ T1 A MJ, t = .int .u32 T1 ∧ a = .int .u32 A ∧ mj = .int .u32 MJ ∧ Hid (T1 = t1S s4 s5 s6 s7 kk ww ∧ A = bs0 s0 ∧ MJ = mjj s0 s1 s2)) ∧ n = .int .i64 7 ∧ ∃ q, w = wr.drewN q)
      case first =>
        go_wp2
        go_meet
        case rel =>
          refine ⟨⟨_, _, _, rfl, rfl, rfl, ?_, rfl, rfl⟩, rfl, ?_⟩
          · show _ = (s7 + bs1 s4 + chh s4 s5 s6 + kk + ww) % 4294967296
            unfold bs1 chh
            omega
          · obtain ⟨q, hq⟩ := HWX.out
            rw [hq]
            simp only [World.drewN_drewN]
            exact ⟨_, rfl⟩
      case rest =>
        obtain ⟨⟨T1, A, MJ, rfl, rfl, rfl, HTA⟩, rfl, q, rfl⟩ := hcut
        obtain ⟨wo, rfl⟩ : ∃ wo : World, wo = wr := ⟨_, rfl⟩
        clear d0 d1 d2 d4 d5 d6 d7 dk dw f0 f1 f2
        go_wp2
        go_loopw [14] (fun n wr => ∃ j : Nat, j ≤ 7 ∧ n = .int .i64 (7 - (j : Int)) ∧ Row wr (w1.heap.size + 1) (.slice (some ⟨gs, 0, none⟩) 8 cs) (u32s (shiftTo [s0, s1, s2, s3, s4, s5, s6, s7] j)) ∧ wo.grownBy wr (some gs)) (fun n _ => (intOf n).toNat)
        case atStart => exact ⟨0, Nat.zero_le _, rfl, HR.out.drewN q, grown_drewN (grown_refl _ _) q⟩
        case round =>
          obtain ⟨j, hj, rfl, hrow, hg⟩ := hrel
          have hsl := shiftTo_len [s0, s1, s2, s3, s4, s5, s6, s7] j
          obtain ⟨X, hX⟩ : ∃ X, X = shiftTo [s0, s1, s2, s3, s4, s5, s6, s7] j := ⟨_, rfl⟩
          rw [← hX] at hrow hsl
          have hXl : X.length = 8 := hsl
          have HRX := Lib.hid hrow
          have HGX := Lib.hid hg
          have HXE := Lib.hid hX
          clear hrow hg hX hsl
          by_cases hj7 : j < 7
          · obtain ⟨p, hp⟩ : ∃ p, p = 7 - j := ⟨_, rfl⟩
            obtain ⟨r, hr⟩ : ∃ r, r = 6 - j := ⟨_, rfl⟩
            have hpj : (7 : Int) - (j : Int) = (p : Int) := by omega
            have hpr : (p : Int) - 1 = (r : Int) := by omega
            rw [hpj]
            have e1 := HRX.out.cellAt (u32s_get (X := X) (j := r) (by omega))
            have e2 := HRX.out.cellAt (u32s_get (X := X) (j := p) (by omega))
            have e3 := HRX.out.frozenAt (j := p) (by simp; omega)
            obtain ⟨x, hx⟩ : ∃ x, x = X.getD r 0 := ⟨_, rfl⟩
            rw [← hx] at e1
            have hp1 : 1 ≤ p := by omega
            have hp8 : (p : Int) < 8 := by omega
            have hr8 : (r : Int) < 8 := by omega
            have HPR := Lib.hid (And.intro hp (And.intro hr hx))
            clear hp hr hx hpj
            go_wp2
            go_roundw
            case rel =>
              obtain ⟨hp, hr, hx⟩ := HPR.out
              refine ⟨j + 1, by omega, by congr 1; omega, ?_, grown_set HGX.out _ _⟩
              have := HRX.out.store p (by simp; omega) (.int .u32 x)
              rw [show u32s (shiftTo [s0, s1, s2, s3, s4, s5, s6, s7] (j + 1)) = (u32s X).set p (.int .u32 x) from by rw [hx, hp, hr, HXE.out]; simp [shiftTo, u32s, List.map_set]]
              exact this
            case measure => simp [intOf]; omega
          · obtain rfl : j = 7 := by omega
            have hneg : (7 : Int) - ((7 : Nat) : Int) = 0 := by omega
            rw [hneg]
            have hX := HXE.out
            subst hX
            have hr2 : Row wr (w1.heap.size + 1) (.slice (some ⟨gs, 0, none⟩) 8 cs) [.int .u32 s0, .int .u32 s0, .int .u32 s1, .int .u32 s2, .int .u32 s3, .int .u32 s4, .int .u32 s5, .int .u32 s6] := HRX.out
            have e0 := hr2.cellAt (j := 0) rfl
            have e4 := hr2.cellAt (j := 4) rfl
            have g0 := hr2.frozenAt (j := 0) (by simp)
            have g4 := hr2.frozenAt (j := 4) (by simp)
            have HR2 := Lib.hid hr2
            clear hr2
            go_wp2
            go_roundw
            case rel =>
              obtain ⟨hT1, hA, hMJ⟩ := HTA.out
              obtain ⟨hkk, hww⟩ := HKW.out
              refine ⟨k + 1, by omega, by go_num, ?_, grown_set (grown_set (grown_trans HG.out HGX.out) _ _) _ _⟩
              have := (HR2.out.store 4 (by simp) (.int .u32 ((s3 + T1) % 4294967296))).store 0 (by simp) (.int .u32 ((T1 + A + MJ) % 4294967296))
              rw [roundsS, ← HSK.out, ← hkk, ← hww]
              subst hT1 hA hMJ
              exact this
            case measure => simp [intOf]; omega
    · have hk64 : k = 64 := by omega
      have hcs3 : ∀ j, j < 8 → wr.cell? ⟨gs, j, none⟩ = some (.int .u32 ([s0, s1, s2, s3, s4, s5, s6, s7].getD j 0)) := fun j hj => HR.out.cellAt (u32s_get (X := [s0, s1, s2, s3, s4, s5, s6, s7]) hj)
      have hch3 : ∀ j, j < 8 → wr.cell? ⟨gh, j, none⟩ = some (.int .u32 (S.getD j 0)) := fun j hj => HG.out.cell (HW3.out.2.2.cell (HH.out j hj) (by simp)) (by simp; omega)
      have hwz := HG.out.size
      have hgsz := (HR.out.lt gs rfl).2
      have HCS := Lib.hid hcs3
      have HCH := Lib.hid hch3
      have HK64 := Lib.hid hk64
      clear hcs3 hch3 hk64
      have hdk : decide ((k : Int) < 64) = false := by simp; omega
      have hghz : gh < wr.heap.size := by have := HW3.out.2.2.size; omega
      obtain ⟨wo, rfl⟩ : ∃ wo : World, wo = wr := ⟨_, rfl⟩
      go_wp2
      go_loopw [15, 16] (fun v i wr => ∃ j : Nat, j ≤ 8 ∧ i = .int .i64 j ∧ Row wr wo.heap.size v (u32s (addS S [s0, s1, s2, s3, s4, s5, s6, s7] j)) ∧ wo.grownBy wr none) (fun _ i _ => 8 - (intOf i).toNat)
      case atStart => exact ⟨0, Nat.zero_le _, rfl, Row.lit wo 89 [], grown_alloc (grown_refl _ _) _⟩
      case round =>
        obtain ⟨j, hj, rfl, hrow, hg⟩ := hrel
        have HRJ := Lib.hid hrow
        have HGJ := Lib.hid hg
        have hws := hg.size
        have HLJ := Lib.hid (show (u32s (addS S [s0, s1, s2, s3, s4, s5, s6, s7] j)).length = j from by simp [addS_len])
        clear hrow hg
        by_cases hj8 : j < 8
        · have d1 := HGJ.out.cell (HCH.out j hj8) (by simp)
          have d2 := HGJ.out.cell (HCS.out j hj8) (by simp)
          obtain ⟨x, hx⟩ : ∃ x, x = S.getD j 0 := ⟨_, rfl⟩
          obtain ⟨y, hy⟩ : ∃ y, y = [s0, s1, s2, s3, s4, s5, s6, s7].getD j 0 := ⟨_, rfl⟩
          rw [← hx] at d1
          rw [← hy] at d2
          have HXY := Lib.hid (And.intro hx hy)
          have hj8I : (j : Int) < 8 := by omega
          clear hx hy
          go_wp2
          go_region_held3 (fun w' => w'.cell? ⟨gh, j, none⟩ = some (.int .u32 x) ∧ w'.cell? ⟨gs, j, none⟩ = some (.int .u32 y)) (go_keep) ((refine step_append_row (by rfl) _ _ 125 (by rfl) 89 i5 (.int .u32 0) 4 Tryd.underlying125 hi5 hz0 hz1 hz2 rfl wo.heap.size _ (u32s (addS S [s0, s1, s2, s3, s4, s5, s6, s7] j)) (by rfl) (HRJ.out.alloc _) ⟨wr.heap.size, 0, none⟩ 1 1 (u32s [IntKind.u32.wrap (x + y)]) (by rfl) rfl (news_new wr 89 (u32s [IntKind.u32.wrap (x + y)])) (u32s_one _) (by rw [HLJ.out]; unfold maxLen; omega) (by rw [HLJ.out]; omega) (by simp; omega) ?_; intro v1 w4 hrow1 hg1; have c0 := row_keep HRJ.out hg1.out hghz d1; have c1 := row_keep HRJ.out hg1.out hgsz d2))
          clear d1 d2 c0 c1
          go_wp2
          go_roundw
          case rel =>
            obtain ⟨hx, hy⟩ := HXY.out
            refine ⟨j + 1, by omega, by go_num, ?_, grown_own (grown_drew (grown_alloc HGJ.out _)) hg1.out (fun q hq => (HRJ.out.lt q hq).1)⟩
            have := hrow1.out
            rw [← List.map_append, hx, hy] at this
            exact this
          case measure => simp [intOf]; omega
        · obtain rfl : j = 8 := by omega
          go_wp2
          go_ret
          have hwo : w.grownBy wo none := grown_own HW3.out.2.2 HG.out (fun q hq => by cases hq; omega)
          refine ⟨_, rfl, ?_, grown_own hwo HGJ.out (fun q hq => by cases hq)⟩
          have := HRJ.out.base hwo.size
          rw [HSK.out, HK64.out, HWE.out] at this
          exact this

end Go.Proofs.YtdelijobaebfnaaDoor
