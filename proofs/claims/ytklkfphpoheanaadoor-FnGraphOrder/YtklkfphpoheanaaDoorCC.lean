/- The document's GraphCycle. -/
import Derived.Test.YtklkfphpoheanaaDoorP5
import Derived.Test.YtklkfphpoheanaaDoorS5
import Derived.Test.YtklkfphpoheanaaDoorB1
import Derived.Deep.RegionLaw
namespace Go.Proofs.YtklkfphpoheanaaDoor
open Go.RowKit

/-- the least of those from k on that are not among D -/
def LowS (n : Nat) (D : List Int) (k r : Int) : Prop := (r = -1 ∧ ∀ q, k ≤ q → q < n → q ∈ D) ∨ (k ≤ r ∧ r < n ∧ ¬ r ∈ D ∧ ∀ q, k ≤ q → q < r → q ∈ D)

theorem LowS.take {n : Nat} {D : List Int} {q : Nat} (hq : q < n) (h : ¬ (q : Int) ∈ D) : LowS n D q q := .inr ⟨Int.le_refl _, by omega, h, fun k h1 h2 => by omega⟩
theorem LowS.pass {n : Nat} {D : List Int} {q : Nat} {x : Int} (h : LowS n D ((q + 1 : Nat) : Int) x) (hq : (q : Int) ∈ D) : LowS n D q x := by
  rcases h with ⟨rfl, h⟩ | ⟨h1, h2, h3, h4⟩
  · refine .inl ⟨rfl, fun k hk1 hk2 => ?_⟩
    by_cases e : k = q
    · rw [e]; exact hq
    · exact h k (by omega) hk2
  · refine .inr ⟨by omega, h2, h3, fun k hk1 hk2 => ?_⟩
    by_cases e : k = q
    · rw [e]; exact hq
    · exact h4 k (by omega) hk2

theorem first_at (L : List Int) (k : Int) : ∀ j : Nat, L.getD j 0 = k → j < L.length → ∃ f : Nat, AtI L k f := by
  intro j
  induction j using Nat.strongRecOn with
  | ind j ih =>
    intro e hj
    by_cases h : ∃ q, q < j ∧ L.getD q 0 = k
    · obtain ⟨q, hq, eq⟩ := h
      exact ih q hq eq (by omega)
    · exact ⟨j, .inl ⟨j, rfl, hj, e, fun q hq eq => h ⟨q, hq, eq⟩⟩⟩

set_option maxRecDepth 100000 in
set_option maxHeartbeats 1000000 in
theorem specCycle_any (w : World) (n : Int) (hn1 : -9223372036854775808 ≤ n) (hn2 : n ≤ 9223372036854775807) (ao : Option Addr) (cap : Nat) (E : List (Int × Int)) (hE : NLies w ao E) (hl : E.length ≤ 1048576) :
    Calls Tryd.prog 11 #[.int .i64 n, .slice ao E.length cap] w fun e w' => ∃ v L, e = .returned v ∧ Row w' w.heap.size v (ints L) ∧ CycSpec n E L ∧ w.grownBy w' none := by
  have HOK := Lib.hid (l5ok_any w n hn1 hn2 ao cap E hE hl)
  have HE0 := Lib.hid (show Row (w.alloc (.cells #[] 3)) w.heap.size (.slice (some ⟨w.heap.size, 0, none⟩) 0 0) (ints []) from Row.empty (Nat.le_refl _) (by simp))
  by_cases ho : OkG n E
  · have HD := Lib.hid (decide_eq_true ho)
    rw [HD.out] at HOK
    have HOO := Lib.hid ho
    obtain ⟨m, rfl⟩ := Int.eq_ofNat_of_zero_le ho.1
    have hm16 : m ≤ 16 := by have := ho.2.1; omega
    have HORD := Lib.hid (l5order_any w m hm16 ao cap E hE hl ho.2.2)
    have HE := Lib.hid hE
    clear ho hE HD
    go_enter Tryd.func11, Tryd.ntmps11
    go_wp2_with (first | (go_at_call 25; refine HOK.out.mono ?_; rintro e w' ⟨rfl, hw⟩; have hw := hw.symm; subst hw))
    refine HORD.out.mono ?_
    rintro e w3 ⟨v, D, rfl, hrow, hch, hfin, hg3⟩
    have HG3 := Lib.hid hg3
    have HRW := Lib.hid hrow
    have HCH := Lib.hid hch
    have HFI := Lib.hid hfin
    have hs3 := hg3.size
    have hDl := hch.len
    obtain ⟨ta, gq, cq, hvq, -, hta, hcc, -⟩ := row_ints hrow
    subst hvq
    have HTA := Lib.hid hta
    have HCC := Lib.hid hcc
    clear hrow hch hfin hg3 HORD HOK HE0 hta hcc
    go_wp2
    go_loop [6, 7] (fun a i => ∃ (r : Nat) (x : Int), r ≤ m ∧ i = .int .i64 ((r : Int) - 1) ∧ a = .int .i64 x ∧ LowS m D r x) (fun _ i => (intOf i + 1).toNat)
    case atStart => exact ⟨m, -1, Nat.le_refl _, rfl, rfl, .inl ⟨rfl, fun q h1 h2 => by omega⟩⟩
    case round =>
      obtain ⟨r, x, hr, rfl, rfl, hlow⟩ := hrel
      have HLOW := Lib.hid hlow
      clear hlow
      by_cases hr0 : r = 0
      · subst hr0
        by_cases hx0 : x < 0
        · have HCY := Lib.hid (show CycSpec (m : Int) E [] from .inr ⟨HOO.out, D, HCH.out, HFI.out, .inl ⟨fun k hk => by
            rcases HLOW.out with ⟨_, h⟩ | ⟨h, _⟩
            · exact h k (by omega) (by simpa using hk)
            · omega, rfl⟩⟩)
          go_wp2
          go_ret
          exact ⟨_, rfl, [], Row.empty hs3 (by simp), HCY.out, grown_alloc HG3.out _⟩
        · have hx1 : 0 ≤ x := by omega
          have HFS := Lib.hid (show FirstS m D x from by
            rcases HLOW.out with ⟨rfl, _⟩ | ⟨h1, h2, h3, h4⟩
            · omega
            · exact ⟨hx1, h2, h3, fun k h5 h6 => h4 k (by simpa using h5) h6⟩)
          clear hx0 HLOW
          have HR0 := Lib.hid (show Row (w3.alloc (.cells #[] 3)) w3.heap.size (.slice (some ⟨w3.heap.size, 0, none⟩) 0 0) (ints []) from Row.empty (Nat.le_refl _) (by simp))
          obtain ⟨i3, hi3, hz0, hz1, hz2⟩ := info_parts info3
          have HST := Lib.hid (show 0 ≤ x ∧ x < (m : Int) ∧ ¬ x ∈ D from ⟨HFS.out.1, HFS.out.2.1, HFS.out.2.2.1⟩)
          go_wp2
          go_loopw [6, 8] (fun a v wr => ∃ (W : List Int) (y : Int), a = .int .i64 y ∧ Row wr w3.heap.size v (ints W) ∧ Way E D x W y ∧ w3.heap.size ≤ wr.heap.size ∧ w3.grownBy wr none) (fun _ v _ => m + 1 - sliceLen v)
          case atStart => exact ⟨[], x, rfl, HR0.out, Way.start, by simp, grown_alloc (grown_refl _ _) _⟩
          case round =>
            clear HR0
            obtain ⟨W, y, rfl, hrow, hway, hsz, hg⟩ := hrel
            have HR := Lib.hid hrow
            have HWY := Lib.hid hway
            have HG := Lib.hid hg
            have hWl := hway.len hm16 HOO.out.2.2 HFI.out HST.out
            have HLN := Lib.hid (ints_len W)
            obtain ⟨tw, gw, cw, hvw, hcw, htw, hcellw, -, -, -⟩ := row_ints hrow
            subst hvw
            have HTW := Lib.hid htw
            have HCW := Lib.hid hcellw
            clear hrow hway hg htw hcellw
            cases c3 : decide (y ∈ W)
            · have C3 := Lib.hid c3
              clear c3
              go_wp2_with (first | (go_at_call 28; refine (l5has_any _ W _ gw cw (by exact HTW.out) (by exact HCW.out) (by omega) y).mono ?_; rw [C3.out]; rintro e w' ⟨rfl, hw⟩; have hw := hw.symm; subst hw) | (at_builtin; refine wpList_append_row2 rfl _ _ 26 rfl 3 i3 (.int .i64 0) 8 Tryd.underlying26 hi3 hz0 hz1 hz2 rfl w3.heap.size _ (ints W) rfl (HR.out.alloc _) ⟨_, 0, none⟩ 1 1 (ints [y]) rfl rfl (news_new _ 3 (ints [y])) (ints_one _) (by rw [HLN.out]; unfold maxLen; omega) (by rw [HLN.out]; omega) (by simp; omega) ?_; intro lv2 w5 hrow5 hg5 hown5))
              have HGA := Lib.hid (show w3.grownBy w5 none from grown_own (grown_alloc HG.out _) hg5.out (fun q hq => (HR.out.lt q hq).1))
              refine (l5next_any w5 m ao cap E ((HE.out.kept HG3.out).kept HGA.out) hl HOO.out.2.2 y D ta gq cq HTA.out (fun j hj => HGA.out.cell (HCC.out j hj) (by simp)) (by omega)).mono ?_
              rintro e w6 ⟨r6, rfl, hnx, hw6⟩
              have hw6 := hw6.symm
              subst hw6
              have HWY2 := Lib.hid (Way.step HWY.out (of_decide_eq_false C3.out) hnx)
              have HR5 := Lib.hid (show Row w5 w3.heap.size lv2 (ints (W ++ [y])) from by rw [ints_app]; exact hrow5.out)
              have hsz6 : w3.heap.size ≤ w5.heap.size := HGA.out.size
              have hW1 := HWY2.out.len hm16 HOO.out.2.2 HFI.out HST.out
              clear hnx hrow5 hg5 hown5
              go_wp2
              go_roundw
              case rel => exact ⟨W ++ [y], r6, rfl, HR5.out, HWY2.out, hsz6, HGA.out⟩
              case measure =>
                have h1 := HR5.out.slen
                simp only [List.length_append, List.length_cons, List.length_nil] at h1 hW1
                have h2 : sliceLen (Value.slice tw W.length cw) = W.length := rfl
                rw [h1, h2]
                omega
            · have C3 := Lib.hid c3
              clear c3
              go_wp2_with (first | (go_at_call 28; refine (l5has_any _ W _ gw cw (by exact HTW.out) (by exact HCW.out) (by omega) y).mono ?_; rw [C3.out]; rintro e w' ⟨rfl, hw⟩; have hw := hw.symm; subst hw))
              obtain ⟨f, hf⟩ : ∃ f : Nat, AtI W y f := by
                have hm := of_decide_eq_true C3.out
                obtain ⟨j, hj, e⟩ := List.mem_iff_getElem.1 hm
                exact first_at W y j (by simp [hj, e]) hj
              obtain ⟨f', hff, hfl, hfy, hfn⟩ := hf.yes (of_decide_eq_true C3.out)
              obtain rfl : f = f' := by omega
              have HF := Lib.hid hf
              have HFY := Lib.hid hfy
              have HFN := Lib.hid hfn
              have HR1 := Lib.hid (show Row (wr.alloc (.cells #[] 3)) wr.heap.size (.slice (some ⟨wr.heap.size, 0, none⟩) 0 0) (ints []) from Row.empty (Nat.le_refl _) (by simp))
              clear hf hfy hfn hff
              obtain ⟨wq, hwq⟩ : ∃ wq, wq = wr := ⟨wr, rfl⟩
              subst hwq
              go_loopw [9, 10, 11] (fun rv ob i wz => ∃ k : Nat, k ≤ W.length ∧ i = .int .i64 k ∧ ob = .bool (decide (f < k)) ∧ Row wz wq.heap.size rv (ints ((W.take k).drop f)) ∧ wq.heap.size ≤ wz.heap.size ∧ wq.grownBy wz none) (fun _ _ i _ => W.length - (intOf i).toNat)
              case atStart => exact ⟨0, Nat.zero_le _, rfl, by simp, by simpa using HR1.out, by simp, grown_alloc (grown_refl _ _) _⟩
              case round =>
                clear HR1
                obtain ⟨k, hk, rfl, rfl, hrow, hsz2, hg2⟩ := hrel
                have HRR := Lib.hid hrow
                have HGG := Lib.hid hg2
                by_cases hlt : k < W.length
                · have e1 := HTW.out (by omega)
                  subst e1
                  have d0 := hg2.cell (HCW.out k hlt) (by simp)
                  obtain ⟨z, hz⟩ : ∃ z, z = W.getD k 0 := ⟨_, rfl⟩
                  rw [← hz] at d0
                  have HZ := Lib.hid hz
                  have hkI : (k : Int) < W.length := by omega
                  have hgez : W[k] = z := by rw [hz]; simp [hlt]
                  have HTK := Lib.hid (show W.take (k + 1) = W.take k ++ [z] from by rw [List.take_succ_eq_append_getElem hlt, hgez])
                  have HLR := Lib.hid (show (ints ((W.take k).drop f)).length ≤ 16 from by rw [ints_len]; simp; omega)
                  clear hz hrow hg2 hgez
                  by_cases hkf : k < f
                  · have hne : (z == y) = false := by rw [beq_eq_false_iff_ne, HZ.out]; exact HFN.out k hkf
                    have hdf : decide (f < k) = false := by simp; omega
                    rw [hdf]
                    go_wp2
                    exact ⟨⟨k + 1, by omega, by go_num, by rw [show decide (f < k + 1) = false from by simp; omega], by rw [show (W.take (k + 1)).drop f = (W.take k).drop f from by rw [List.drop_eq_nil_of_le (by simp; omega), List.drop_eq_nil_of_le (by simp; omega)]]; exact HRR.out, hsz2, HGG.out⟩, by simp [intOf]; omega⟩
                  · have HDR := Lib.hid (show (W.take (k + 1)).drop f = (W.take k).drop f ++ [z] from by rw [HTK.out, List.drop_append_of_le_length (by simp; omega)])
                    have HDC := Lib.hid (show decide (f < k + 1) = true from by simp; omega)
                    by_cases hke : k = f
                    · have hne : (z == y) = true := by rw [beq_iff_eq, HZ.out, hke]; exact HFY.out
                      have hdf : decide (f < k) = false := by simp; omega
                      rw [hdf]
                      clear hke
                      go_wp2_with (first | (at_builtin; refine wpList_append_row2 rfl _ _ 26 rfl 3 i3 (.int .i64 0) 8 Tryd.underlying26 hi3 hz0 hz1 hz2 rfl wq.heap.size _ (ints ((W.take k).drop f)) rfl (HRR.out.alloc _) ⟨_, 0, none⟩ 1 1 (ints [z]) rfl rfl (news_new _ 3 (ints [z])) (ints_one _) (by have := HLR.out; unfold maxLen; omega) (by have := HLR.out; omega) (by simp; omega) ?_; intro lv2 w5 hrow5 hg5 hown5))
                      go_roundw
                      case rel => exact ⟨k + 1, by omega, by go_num, by rw [HDC.out], by rw [HDR.out, ints_app]; exact hrow5.out, Nat.le_trans (Nat.le_trans hsz2 (World.grownBy_alloc _ _ none).size) hg5.out.size, grown_own (grown_alloc HGG.out _) hg5.out (fun q hq => (HRR.out.lt q hq).1)⟩
                      case measure => simp [intOf]; omega
                    · have hdf : decide (f < k) = true := by simp; omega
                      rw [hdf]
                      go_wp2_with (first | (at_builtin; refine wpList_append_row2 rfl _ _ 26 rfl 3 i3 (.int .i64 0) 8 Tryd.underlying26 hi3 hz0 hz1 hz2 rfl wq.heap.size _ (ints ((W.take k).drop f)) rfl (HRR.out.alloc _) ⟨_, 0, none⟩ 1 1 (ints [z]) rfl rfl (news_new _ 3 (ints [z])) (ints_one _) (by have := HLR.out; unfold maxLen; omega) (by have := HLR.out; omega) (by simp; omega) ?_; intro lv2 w5 hrow5 hg5 hown5))
                      go_roundw
                      case rel => exact ⟨k + 1, by omega, by go_num, by rw [HDC.out], by rw [HDR.out, ints_app]; exact hrow5.out, Nat.le_trans (Nat.le_trans hsz2 (World.grownBy_alloc _ _ none).size) hg5.out.size, grown_own (grown_alloc HGG.out _) hg5.out (fun q hq => (HRR.out.lt q hq).1)⟩
                      case measure => simp [intOf]; omega
                · obtain rfl : k = W.length := by omega
                  have hR : (W.take W.length).drop f = W.drop f := by rw [List.take_length]
                  rw [hR] at hrow
                  obtain ⟨R, hRd⟩ : ∃ R, R = W.drop f := ⟨_, rfl⟩
                  rw [← hRd] at hrow
                  have hRl : R.length = W.length - f := by rw [hRd]; simp
                  have HR2 := Lib.hid hrow
                  obtain ⟨tr, gr, cr, hvr, hcr, htr, hcellr, -, -, -⟩ := row_ints hrow
                  subst hvr
                  have e2 := htr (by omega)
                  subst e2
                  have HCR := Lib.hid hcellr
                  have HRD := Lib.hid hRd
                  clear hrow hg2 htr hcellr hRd hR HRR HTW HCW
                  obtain ⟨wz, hwz⟩ : ∃ wz, wz = wr := ⟨wr, rfl⟩
                  subst hwz
                  have HRL := Lib.hid hRl
                  have HFL := Lib.hid hfl
                  have hR1 : 0 < R.length := by omega
                  have hR16 : R.length ≤ 16 := by omega
                  clear hRl hfl
                  go_wp2
                  go_loopw [12, 13] (fun lv i wl => ∃ (l k c : Nat), wl = wz.drewN c ∧ l < R.length ∧ k ≤ R.length ∧ lv = .int .i64 l ∧ i = .int .i64 k ∧ (∀ q, q < k → R.getD l 0 ≤ R.getD q 0) ∧ (∀ q, q < l → R.getD l 0 < R.getD q 0) ∧ (l < k ∨ l = 0)) (fun _ i _ => R.length - (intOf i).toNat)
                  case atStart => exact ⟨0, 0, 0, rfl, hR1, Nat.zero_le _, rfl, rfl, fun q hq => absurd hq (Nat.not_lt_zero _), fun q hq => absurd hq (Nat.not_lt_zero _), .inr rfl⟩
                  case round =>
                    obtain ⟨l, k, c, rfl, hlR, hkR, rfl, rfl, hle, hlt4, hlk⟩ := hrel
                    have HLE := Lib.hid hle
                    have HL4 := Lib.hid hlt4
                    have HLK := Lib.hid hlk
                    clear hle hlt4 hlk
                    by_cases hk4 : k < R.length
                    · have d0 := HCR.out k hk4
                      have d1 := HCR.out l hlR
                      have d0 : (wz.drewN c).cell? ⟨gr, k, none⟩ = some (.int .i64 (R.getD k 0)) := d0
                      have d1 : (wz.drewN c).cell? ⟨gr, l, none⟩ = some (.int .i64 (R.getD l 0)) := d1
                      have hk4I : (k : Int) < R.length := by omega
                      have hl4I : (l : Int) < R.length := by omega
                      have D0 := Lib.hid (show (wz.drewN (c + 1)).cell? ⟨gr, k, none⟩ = some (.int .i64 (R.getD k 0)) from d0)
                      have D1 := Lib.hid (show (wz.drewN (c + 1)).cell? ⟨gr, l, none⟩ = some (.int .i64 (R.getD l 0)) from d1)
                      obtain ⟨zk, hzk⟩ : ∃ z, z = R.getD k 0 := ⟨_, rfl⟩
                      obtain ⟨zl, hzl⟩ : ∃ z, z = R.getD l 0 := ⟨_, rfl⟩
                      rw [← hzk] at D0
                      rw [← hzl] at D1
                      have HZK := Lib.hid hzk
                      have HZL := Lib.hid hzl
                      clear d0 d1 hzk hzl
                      go_wp2
                      refine wp_still (by kernel_rfl) (by kernel_rfl) (fun wx => wx = wz.drewN (c + 1)) rfl ?_
                      rintro wx hwx
                      have e0 := D0.out
                      have e1 := D1.out
                      rw [← hwx] at e0 e1
                      have HWX := Lib.hid hwx
                      clear hwx D0 D1
                      by_cases hzz : zk < zl
                      · repeat still_step
                        refine wpStill_nil ?_
                        have HZZ := Lib.hid hzz
                        clear hzz e0 e1
                        go_wp2
                        exact ⟨⟨k, k + 1, c + 1, HWX.out, hk4, by omega, rfl, by go_num, fun q hq => by
                          have h1 := HZZ.out
                          rw [HZK.out, HZL.out] at h1
                          by_cases e : q = k
                          · rw [e]; exact Int.le_refl _
                          · have := HLE.out q (by omega); omega, fun q hq => by
                          have h1 := HZZ.out
                          rw [HZK.out, HZL.out] at h1
                          have := HLE.out q hq
                          omega, .inl (by omega)⟩, by simp [intOf]; omega⟩
                      · repeat still_step
                        refine wpStill_nil ?_
                        have HZZ := Lib.hid hzz
                        clear hzz e0 e1
                        go_wp2
                        exact ⟨⟨l, k + 1, c + 1, HWX.out, hlR, by omega, rfl, by go_num, fun q hq => by
                          have h1 := HZZ.out
                          rw [HZK.out, HZL.out] at h1
                          by_cases e : q = k
                          · rw [e]; omega
                          · exact HLE.out q (by omega), HL4.out, by rcases HLK.out with h | h <;> omega⟩, by simp [intOf]; omega⟩
                    · obtain ⟨N, hN⟩ : ∃ N, N = R.length := ⟨_, rfl⟩
                      obtain rfl : k = R.length := by omega
                      have hlI : (l : Int) ≤ R.length := by omega
                      have hlc : (l : Int) ≤ cr := by omega
                      have hlcp : (R.length : Int) ≤ cr := by omega
                      have hcl : ¬ cr = l := by omega
                      have hl0 : (0 : Int) ≤ (l : Int) := by omega
                      have HTU := Lib.hid (show TurnOf R (R.drop l ++ R.take l) from ⟨R.getD l 0, l, mem_of_at hlR rfl, fun z hz => by
                        obtain ⟨j, hj, e⟩ := List.mem_iff_getElem.1 hz
                        have := HLE.out j hj
                        have e2 : R.getD j 0 = z := by simp [hj, e]
                        rw [e2] at this
                        exact this, .inl ⟨l, rfl, hlR, rfl, fun q hq e => by have := HL4.out q hq; omega⟩, rfl⟩)
                      have HGA := Lib.hid (show wz.grownBy ((wz.drewN c).drew.alloc (Obj.cells #[] 3)) none from grown_alloc (grown_drew (grown_drewN (grown_refl _ _) _)) _)
                      have HRE := Lib.hid (show Row ((wz.drewN c).drew.alloc (Obj.cells #[] 3)) wz.heap.size (.slice (some ⟨wz.heap.size, 0, none⟩) 0 0) (ints []) from Row.empty (Nat.le_refl _) (by simp))
                      have HN1 := Lib.hid (fun W : World => (show wz.grownBy W none → ∀ j u, (ints (R.drop l))[j]? = some u → W.cell? ((⟨gr, l, none⟩ : Addr).add j) = some u from fun hg j u hu => by
                        rw [Addr.add_lit]
                        have hj : j < (ints (R.drop l)).length := by
                          apply Classical.byContradiction
                          intro h
                          rw [List.getElem?_eq_none (by omega)] at hu
                          cases hu
                        rw [ints_len] at hj
                        simp at hj
                        have := hg.cell (HCR.out (l + j) (by omega)) (by simp)
                        rw [this, ← hu]
                        simp [ints, List.getElem?_drop, show l + j < R.length from by omega]))
                      have HN2 := Lib.hid (fun W : World => (show wz.grownBy W none → ∀ j u, (ints (R.take l))[j]? = some u → W.cell? ((⟨gr, 0, none⟩ : Addr).add j) = some u from fun hg j u hu => by
                        rw [Addr.add_lit, Nat.zero_add]
                        have hj : j < (ints (R.take l)).length := by
                          apply Classical.byContradiction
                          intro h
                          rw [List.getElem?_eq_none (by omega)] at hu
                          cases hu
                        rw [ints_len] at hj
                        simp at hj
                        have := hg.cell (HCR.out j (by omega)) (by simp)
                        rw [this, ← hu]
                        simp [ints, show j < l from by omega, show j < R.length from by omega]))
                      have HL1 := Lib.hid (show (ints (R.drop l)).length = R.length - l from by rw [ints_len]; simp)
                      have HL2 := Lib.hid (show (ints (R.take l)).length = l from by rw [ints_len]; simp; omega)
                      have HL3 := Lib.hid (show (ints [] ++ ints (R.drop l)).length = R.length - l from by rw [← ints_app, ints_len]; simp)
                      clear HLE HL4 HLK
                      go_wp2
                      go_region_law (first | (refine step_append_row2 (by rfl) (.tmp 89) (.tmp 92) 26 (by rfl) 3 i3 (.int .i64 0) 8 Tryd.underlying26 hi3 hz0 hz1 hz2 rfl wz.heap.size _ (ints []) (by rfl) HRE.out ⟨gr, l, none⟩ (R.length - l) (cr - l) (ints (R.drop l)) (by rfl) HL1.out (HN1.out _ HGA.out) (ints_one _) (by simp [ints]; unfold maxLen; omega) (by simp [ints]; omega) (by simp) ?_; intro v1 w1 hrow1 hg1 hown1) | (refine step_append_row2 (by rfl) (.tmp 93) (.tmp 96) 26 (by rfl) 3 i3 (.int .i64 0) 8 Tryd.underlying26 hi3 hz0 hz1 hz2 rfl wz.heap.size _ (ints [] ++ ints (R.drop l)) (by rfl) hrow1.out ⟨gr, 0, none⟩ l cr (ints (R.take l)) (by rfl) HL2.out (HN2.out _ (grown_own HGA.out hg1.out (fun q hq => by cases hq; exact Nat.le_refl _))) (ints_one _) (by rw [HL3.out]; unfold maxLen; omega) (by rw [HL3.out]; omega) (by exact Nat.le_trans HGA.out.size hg1.out.size) ?_; intro v2 w2 hrow2 hg2 hown2))
                      have HFIN := Lib.hid (show Row w2 w.heap.size v2 (ints (R.drop l ++ R.take l)) ∧ CycSpec (m : Int) E (R.drop l ++ R.take l) ∧ w.grownBy w2 none from ⟨by
                        have h := hrow2.out
                        rw [← ints_app, ← ints_app, List.nil_append] at h
                        exact h.base (Nat.le_trans hs3 (Nat.le_trans HG.out.size HGG.out.size)), .inr ⟨HOO.out, D, HCH.out, HFI.out, .inr ⟨x, W, y, f, HFS.out, HWY.out, of_decide_eq_true C3.out, HF.out, by rw [← HRD.out]; exact HTU.out⟩⟩, grown_trans (grown_trans (grown_trans HG3.out HG.out) HGG.out) (grown_own (grown_own HGA.out hg1.out (fun q hq => by cases hq; exact Nat.le_refl _)) hg2.out (fun q hq => (hrow1.out.lt q hq).1))⟩)
                      clear hrow1 hg1 hown1 hrow2 hg2 hown2 HRE HGA HN1 HN2
                      go_wp2
                      go_ret
                      exact ⟨_, _, rfl, HFIN.out.1, HFIN.out.2.1, HFIN.out.2.2⟩
      · obtain ⟨q, rfl⟩ : ∃ q, r = q + 1 := ⟨r - 1, by omega⟩
        have e1 : ((q + 1 : Nat) : Int) - 1 = (q : Int) := by omega
        rw [e1]
        have hq0 : (0 : Int) ≤ (q : Int) := by omega
        clear hr0
        cases c2 : decide ((q : Int) ∈ D)
        · have C2 := Lib.hid c2
          clear c2
          go_wp2_with (first | (go_at_call 28; refine (l5has_any _ D _ gq cq (by exact HTA.out) (by exact HCC.out) (by omega) (q : Int)).mono ?_; rw [C2.out]; rintro e w' ⟨rfl, hw⟩; have hw := hw.symm; subst hw))
          exact ⟨⟨q, q, by omega, rfl, rfl, LowS.take (by omega) (of_decide_eq_false C2.out)⟩, by simp [intOf]⟩
        · have C2 := Lib.hid c2
          clear c2
          go_wp2_with (first | (go_at_call 28; refine (l5has_any _ D _ gq cq (by exact HTA.out) (by exact HCC.out) (by omega) (q : Int)).mono ?_; rw [C2.out]; rintro e w' ⟨rfl, hw⟩; have hw := hw.symm; subst hw))
          exact ⟨⟨q, x, by omega, rfl, rfl, HLOW.out.pass (of_decide_eq_true C2.out)⟩, by simp [intOf]⟩
  · have HD := Lib.hid (decide_eq_false ho)
    rw [HD.out] at HOK
    have HOO := Lib.hid ho
    clear ho hE HD
    go_enter Tryd.func11, Tryd.ntmps11
    go_wp2_with (first | (go_at_call 25; refine HOK.out.mono ?_; rintro e w' ⟨rfl, hw⟩; have hw := hw.symm; subst hw))
    go_ret
    exact ⟨_, [], rfl, HE0.out, .inl ⟨HOO.out, rfl⟩, grown_alloc (grown_refl _ _) _⟩

end Go.Proofs.YtklkfphpoheanaaDoor
