/- FnGraphCycle's walk. -/
import Derived.Test.YtklkfphpoheanaaDoorW5
import Derived.Test.YtklkfphpoheanaaDoorW4
import Derived.Test.YtklkfphpoheanaaDoorP6
import Derived.Test.YtklkfphpoheanaaDoorCB
import Derived.Test.YtklkfphpoheanaaDoorB1
import Derived.Test.YtklkfphpoheanaaDoorCC
namespace Go.Proofs.YtklkfphpoheanaaDoor
open Go.RowKit

theorem cell_drewN {w : World} {a : Addr} {v : Value} (c : Nat) (h : w.cell? a = some v) : (w.drewN c).cell? a = some v := h

set_option maxRecDepth 100000 in
set_option maxHeartbeats 8000000 in
theorem graphCycle_walk (w : World) (hT : Tabs w) (ao : Option Addr) (n cap : Nat) (hcap : n ≤ cap) (hc : n = 0 ∨ ∃ ab o, ao = some ⟨ab, o, none⟩ ∧ ∀ j, j < n → ∃ x : Int, 0 ≤ x ∧ x < 256 ∧ w.cell? ⟨ab, o + j, none⟩ = some (.int .u8 x)) :
    Calls Tryd.prog 4 #[.slice ao n cap] w fun e w' => e = .returned (.bool true) ∧ w.grownBy w' none := by
  by_cases hn : (n : Int) > 1048576
  · clear hc hT
    go_enter Tryd.func4, Tryd.ntmps4
    go_wp2
    go_ret
    exact ⟨rfl, grown_refl _ _⟩
  have hn' : (n : Int) ≤ 1048576 := by omega
  have HD := Lib.hid (drawCycle_any w ao n cap (by omega) hcap hc)
  have HT := Lib.hid hT
  clear hn hc hT
  go_enter Tryd.func4, Tryd.ntmps4
  go_wp2_with fail
  refine HD.out.mono ?_
  rintro e w1 ⟨N, v, E, rfl, hN1, hN2, hnr, hEl, hg1⟩
  obtain ⟨bo, dap, rfl, hE⟩ := hnr.nlies
  have hEm : E.length ≤ 1048576 := by omega
  have HE := Lib.hid hE
  have HG1 := Lib.hid hg1
  have HI := Lib.hid (GraphCycle_any w1 (HT.out.grown hg1) N bo dap E hE hEm)
  clear hnr hE hg1 HD
  go_wp2_with fail
  refine HI.out.mono ?_
  rintro e w2 ⟨v1, L, rfl, hrow1, hcs, hg2⟩
  have hL16 := hcs.len
  have hLm : L.length ≤ 1048576 := by omega
  have HCS := Lib.hid hcs
  have HR1 := Lib.hid hrow1
  have HG2 := Lib.hid (grown_trans HG1.out hg2)
  have HE2 := Lib.hid (HE.out.kept hg2)
  have HS := Lib.hid (specCycle_any w2 N (by omega) (by omega) bo dap E HE2.out hEm)
  clear hrow1 hg2 hcs HI HE HG1
  go_wp2_with fail
  refine HS.out.mono ?_
  rintro e w3 ⟨v2, L', rfl, hrow2, hcs2, hg3⟩
  obtain rfl := HCS.out.one hcs2
  have HR13 := Lib.hid (HR1.out.kept hg3 (by simp))
  have HG3 := Lib.hid (grown_trans HG2.out hg3)
  have HE3 := Lib.hid (HE2.out.kept hg3)
  have HQ := Lib.hid (wsInts_same w3 L hLm _ _ v1 v2 HR13.out hrow2)
  clear hrow2 hg3 hcs2 HS HE2 HG2 HR1
  go_wp2_with fail
  refine HQ.out.mono ?_
  rintro e w4 ⟨rfl, hg4⟩
  have HR14 := Lib.hid (HR13.out.kept hg4 (by simp))
  have HG4 := Lib.hid (grown_trans HG3.out hg4)
  have HE4 := Lib.hid (HE3.out.kept hg4)
  have HO := Lib.hid (GraphOrder_any w4 N bo dap E HE4.out hEm)
  clear hg4 HQ HE3 HG3 HR13
  go_wp2_with fail
  refine HO.out.mono ?_
  rintro e w5 ⟨v5, b, L5, rfl, hrow5, hos5, hg5⟩
  have HR15 := Lib.hid (HR14.out.kept hg5 (by simp))
  have HG5 := Lib.hid (grown_trans HG4.out hg5)
  have HE5 := Lib.hid (HE4.out.kept hg5)
  have HOS := Lib.hid hos5
  have HSO := Lib.hid (specOrder_any w5 N (by omega) (by omega) bo dap E HE5.out hEm)
  clear hrow5 hos5 hg5 HO HE4 HG4 HR14
  go_wp2_with fail
  refine HSO.out.mono ?_
  rintro e w6 ⟨v6, b', L6, rfl, hrow6, hos6, hg6⟩
  obtain ⟨rfl, rfl⟩ := HOS.out.one hos6
  have HR16 := Lib.hid (HR15.out.kept hg6 (by simp))
  have HG6 := Lib.hid (grown_trans HG5.out hg6)
  have HE6 := Lib.hid (HE5.out.kept hg6)
  obtain ⟨tl, gl, cl, hvl, hcl, hta, hcc, -⟩ := row_ints HR16.out
  subst hvl
  have HTA := Lib.hid hta
  have HCC := Lib.hid hcc
  have hbb : (b == b) = true := by simp
  clear hrow6 hos6 hg6 HSO HE5 HG5 HR15 hta hcc
  go_wp2
  go_loopw [10] (fun i wl => ∃ k c : Nat, k ≤ L.length ∧ i = .int .i64 k ∧ wl = w6.drewN c) (fun i _ => L.length - (intOf i).toNat)
  case atStart => exact ⟨0, 0, Nat.zero_le _, rfl, rfl⟩
  case round =>
    obtain ⟨i, c, hi, rfl, rfl⟩ := hrel
    by_cases hlt : i < L.length
    · have e1 := HTA.out (by omega)
      subst e1
      have hiI : (i : Int) < L.length := by omega
      obtain ⟨x, hx⟩ : ∃ x, x = L.getD i 0 := ⟨_, rfl⟩
      obtain ⟨nx, hnx⟩ : ∃ nx, nx = (i + 1) % L.length := ⟨_, rfl⟩
      obtain ⟨y, hy⟩ : ∃ y, y = L.getD nx 0 := ⟨_, rfl⟩
      have hnl : nx < L.length := by rw [hnx]; exact Nat.mod_lt _ (by omega)
      have hnI : (nx : Int) < L.length := by omega
      have hmod : ((i : Int) + 1).tmod (L.length : Int) = (nx : Int) := by rw [Int.tmod_eq_emod_of_nonneg (by omega), hnx]; simp
      have hwr : IntKind.i64.wrap ((i : Int) + 1) = (i : Int) + 1 := by rw [IntKind.wrap_i64]; omega
      have HIN := Lib.hid (show (x, y) ∈ E from by rw [hx, hy, hnx]; exact HCS.out.rings.1 i hlt)
      have HNO := Lib.hid (show decide (x ∈ L.take i) = false from decide_eq_false (by rw [hx]; exact nodup_take HCS.out.rings.2 i hlt))
      have HX := Lib.hid (show w6.cell? ⟨gl, i, none⟩ = some (.int .i64 x) from by rw [hx]; exact HCC.out i hlt)
      have HY := Lib.hid (show w6.cell? ⟨gl, nx, none⟩ = some (.int .i64 y) from by rw [hy]; exact HCC.out nx hnl)
      have HMOD := Lib.hid hmod
      have hLne : ¬ L = [] := fun e => by rw [e] at hlt; simp at hlt
      have HXE := Lib.hid hx
      clear hx hy hnx hmod
      go_wp2
      go_loopw [11, 12] (fun fb kk wl => ∃ (k c' : Nat) (bq : Bool), k ≤ E.length ∧ kk = .int .i64 k ∧ fb = .bool bq ∧ (bq = true ↔ ∃ q, q < k ∧ E.getD q (0, 0) = (x, y)) ∧ wl = w6.drewN c') (fun _ kk _ => E.length - (intOf kk).toNat)
      case atStart => exact ⟨0, c, false, Nat.zero_le _, rfl, rfl, ⟨(fun h => by cases h), (fun ⟨q, h, _⟩ => absurd h (Nat.not_lt_zero _))⟩, rfl⟩
      case round =>
        obtain ⟨k, c', bq, hk, rfl, rfl, hbq, rfl⟩ := hrel
        have HBQ := Lib.hid hbq
        clear hbq
        by_cases hke : k < E.length
        · rcases HE6.out with h00 | ⟨ab, o, rfl, hc⟩
          · omega
          obtain ⟨f, hf⟩ : ∃ f, f = (E.getD k (0, 0)).1 := ⟨_, rfl⟩
          obtain ⟨g, hg⟩ : ∃ g, g = (E.getD k (0, 0)).2 := ⟨_, rfl⟩
          have d0 := (hc k hke).1
          have d1 := (hc k hke).2
          rw [← hf, Nat.mul_comm] at d0
          rw [← hg, Nat.mul_comm] at d1
          have D0 := Lib.hid d0
          have D1 := Lib.hid d1
          have hkI : (k : Int) < E.length := by omega
          have HFG := Lib.hid (show E.getD k (0, 0) = (f, g) from by rw [hf, hg])
          clear hf hg hc d0 d1
          have HYES := Lib.hid (fun h : E.getD k (0, 0) = (x, y) => show ∃ q, q < k + 1 ∧ E.getD q (0, 0) = (x, y) from ⟨k, by omega, h⟩)
          have HNOT := Lib.hid (fun h : E.getD k (0, 0) ≠ (x, y) => fun h2 : ¬ ∃ q, q < k ∧ E.getD q (0, 0) = (x, y) => show ¬ ∃ q, q < k + 1 ∧ E.getD q (0, 0) = (x, y) from fun ⟨q, hq, e⟩ => by
            by_cases e2 : q = k
            · rw [e2] at e; exact h e
            · exact h2 ⟨q, by omega, e⟩)
          cases bq
          · have HQF := Lib.hid (show ¬ ∃ q, q < k ∧ E.getD q (0, 0) = (x, y) from fun h => by have := HBQ.out.2 h; cases this)
            by_cases hfx : f = x
            · have hfb : (f == x) = true := by simp [hfx]
              have HFX := Lib.hid hfx
              clear hfx
              by_cases hgy : g = y
              · have hgb : (g == y) = true := by simp [hgy]
                have HGY := Lib.hid hgy
                clear hgy
                go_wp2
                refine wp_still (by kernel_rfl) (by kernel_rfl) (fun wx => wx = w6.drewN (c' + 1)) rfl ?_
                rintro wx hwx
                have q0 := cell_drewN (c' + 1) D0.out
                have q1 := cell_drewN (c' + 1) D1.out
                have q2 := cell_drewN (c' + 1) HX.out
                have q3 := cell_drewN (c' + 1) HY.out
                rw [← hwx] at q0 q1 q2 q3
                have hmod := HMOD.out
                have HWX := Lib.hid hwx
                clear hwx
                repeat ((with_reducible refine wpStill_step ?_); intro K hK; replace hK := Lib.hid hK; go_simp; (with_reducible refine hK.out _ ?_); clear hK K)
                refine wpStill_nil ?_
                clear q0 q1 q2 q3 hmod hfb hgb
                go_wp2
                exact ⟨⟨k + 1, c' + 1, true, by omega, by go_num, rfl, ⟨fun _ => HYES.out (by rw [HFG.out, HFX.out, HGY.out]), fun _ => rfl⟩, HWX.out⟩, by simp [intOf]; omega⟩
              · have hgb : (g == y) = false := by simp [hgy]
                have HGY := Lib.hid hgy
                clear hgy
                go_wp2
                refine wp_still (by kernel_rfl) (by kernel_rfl) (fun wx => wx = w6.drewN (c' + 1)) rfl ?_
                rintro wx hwx
                have q0 := cell_drewN (c' + 1) D0.out
                have q1 := cell_drewN (c' + 1) D1.out
                have q2 := cell_drewN (c' + 1) HX.out
                have q3 := cell_drewN (c' + 1) HY.out
                rw [← hwx] at q0 q1 q2 q3
                have hmod := HMOD.out
                have HWX := Lib.hid hwx
                clear hwx
                repeat ((with_reducible refine wpStill_step ?_); intro K hK; replace hK := Lib.hid hK; go_simp; (with_reducible refine hK.out _ ?_); clear hK K)
                refine wpStill_nil ?_
                clear q0 q1 q2 q3 hmod hfb hgb
                go_wp2
                exact ⟨⟨k + 1, c' + 1, false, by omega, by go_num, rfl, ⟨(fun h => by cases h), (fun h => absurd h (HNOT.out (by rw [HFG.out]; intro e; exact HGY.out (congrArg Prod.snd e)) HQF.out))⟩, HWX.out⟩, by simp [intOf]; omega⟩
            · have hfb : (f == x) = false := by simp [hfx]
              have HFX := Lib.hid hfx
              clear hfx
              go_wp2
              refine wp_still (by kernel_rfl) (by kernel_rfl) (fun wx => wx = w6.drewN (c' + 1)) rfl ?_
              rintro wx hwx
              have q0 := cell_drewN (c' + 1) D0.out
              have q2 := cell_drewN (c' + 1) HX.out
              rw [← hwx] at q0 q2
              have HWX := Lib.hid hwx
              clear hwx
              repeat ((with_reducible refine wpStill_step ?_); intro K hK; replace hK := Lib.hid hK; go_simp; (with_reducible refine hK.out _ ?_); clear hK K)
              refine wpStill_nil ?_
              clear q0 q2 hfb
              go_wp2
              exact ⟨⟨k + 1, c' + 1, false, by omega, by go_num, rfl, ⟨(fun h => by cases h), (fun h => absurd h (HNOT.out (by rw [HFG.out]; intro e; exact HFX.out (congrArg Prod.fst e)) HQF.out))⟩, HWX.out⟩, by simp [intOf]; omega⟩
          · have HQT := Lib.hid (HBQ.out.1 rfl)
            go_wp2
            refine wp_still (by kernel_rfl) (by kernel_rfl) (fun wx => wx = w6.drewN (c' + 1)) rfl ?_
            rintro wx hwx
            have HWX := Lib.hid hwx
            clear hwx
            iterate 13 ((with_reducible refine wpStill_step ?_); intro K hK; replace hK := Lib.hid hK; go_simp; (with_reducible refine hK.out _ ?_); clear hK K)
            iterate 14 ((with_reducible refine wpStill_step ?_); intro K hK; replace hK := Lib.hid hK; go_simp; rw [if_neg (by decide)]; (with_reducible refine hK.out _ ?_); clear hK K)
            repeat ((with_reducible refine wpStill_step ?_); intro K hK; replace hK := Lib.hid hK; go_simp; (with_reducible refine hK.out _ ?_); clear hK K)
            refine wpStill_nil ?_
            go_wp2
            exact ⟨⟨k + 1, c' + 1, true, by omega, by go_num, rfl, ⟨(fun _ => by obtain ⟨q, hq, e⟩ := HQT.out; exact ⟨q, by omega, e⟩), fun _ => rfl⟩, HWX.out⟩, by simp [intOf]; omega⟩
        · obtain ⟨M, hM⟩ : ∃ M, M = E.length := ⟨_, rfl⟩
          obtain rfl : k = E.length := by omega
          obtain rfl : bq = true := HBQ.out.2 (by
            obtain ⟨q, hq, e⟩ := List.mem_iff_getElem.1 HIN.out
            exact ⟨q, hq, by simp [hq, e]⟩)
          have hlci : (i : Int) ≤ cl := by omega
          have hi0 : (0 : Int) ≤ (i : Int) := by omega
          have hlcl : (L.length : Int) ≤ cl := by omega
          go_wp2
          refine wp_still (by kernel_rfl) (by kernel_rfl) (fun wx => wx = w6.drewN (c' + 1)) rfl ?_
          rintro wx hwx
          have q2 := cell_drewN (c' + 1) HX.out
          rw [← hwx] at q2
          have hln : (L.take i).length = i := by simp; omega
          have HCL := Lib.hid (show Calls Tryd.prog 12 #[.slice (some ⟨gl, 0, none⟩) i cl, .int .i64 x] wx (fun e w' => e = .returned (.bool false) ∧ w' = wx) from by
            have h := wsHas_any wx (L.take i) (some ⟨gl, 0, none⟩) gl cl (fun _ => rfl) (fun j hj => by
              have hj2 : j < i := by omega
              have := cell_drewN (c' + 1) (HCC.out j (by omega))
              rw [hwx, this]
              simp [hj2]) (by omega) x
            rw [HNO.out, hln] at h
            exact h)
          have HWX := Lib.hid hwx
          clear hwx hln
          iterate 10 ((with_reducible refine wpStill_step ?_); intro K hK; replace hK := Lib.hid hK; go_simp; (with_reducible refine hK.out _ ?_); clear hK K)
          still_call (HCL.out)
          repeat ((with_reducible refine wpStill_step ?_); intro K hK; replace hK := Lib.hid hK; go_simp; (with_reducible refine hK.out _ ?_); clear hK K)
          refine wpStill_nil ?_
          clear q2 HCL
          go_wp2
          exact ⟨⟨i + 1, c' + 1, by omega, by go_num, HWX.out⟩, by simp [intOf]; omega⟩
    · obtain rfl : i = L.length := by omega
      go_wp2
      go_ret
      exact ⟨rfl, grown_drewN HG6.out _⟩
end Go.Proofs.YtklkfphpoheanaaDoor
