/- FnGraphOrder's walk. -/
import Derived.Test.YtklkfphpoheanaaDoorW5
import Derived.Test.YtklkfphpoheanaaDoorW4
import Derived.Test.YtklkfphpoheanaaDoorP6
import Derived.Test.YtklkfphpoheanaaDoorCB
import Derived.Test.YtklkfphpoheanaaDoorB1
import Derived.Test.YtklkfphpoheanaaDoorCC
namespace Go.Proofs.YtklkfphpoheanaaDoor
open Go.RowKit

theorem cell_drewN2 {w : World} {a : Addr} {v : Value} (c : Nat) (h : w.cell? a = some v) : (w.drewN c).cell? a = some v := h

set_option maxRecDepth 100000 in
set_option maxHeartbeats 8000000 in
theorem graphOrder_walk (w : World) (hT : Tabs w) (ao : Option Addr) (n cap : Nat) (hcap : n ≤ cap) (hc : n = 0 ∨ ∃ ab o, ao = some ⟨ab, o, none⟩ ∧ ∀ j, j < n → ∃ x : Int, 0 ≤ x ∧ x < 256 ∧ w.cell? ⟨ab, o + j, none⟩ = some (.int .u8 x)) :
    Calls Tryd.prog 3 #[.slice ao n cap] w fun e w' => e = .returned (.bool true) ∧ w.grownBy w' none := by
  by_cases hn : (n : Int) > 1048576
  · clear hc hT
    go_enter Tryd.func3, Tryd.ntmps3
    go_wp2
    go_ret
    exact ⟨rfl, grown_refl _ _⟩
  have hn' : (n : Int) ≤ 1048576 := by omega
  have HD := Lib.hid (drawOrder_any w ao n cap (by omega) hcap hc)
  have HT := Lib.hid hT
  clear hn hc hT
  go_enter Tryd.func3, Tryd.ntmps3
  go_wp2_with fail
  refine HD.out.mono ?_
  rintro e w1 ⟨N, v, E, rfl, hN1, hN2, hnr, hEl, hg1⟩
  obtain ⟨bo, dap, rfl, hE⟩ := hnr.nlies
  have hEm : E.length ≤ 1048576 := by omega
  have HE := Lib.hid hE
  have HG1 := Lib.hid hg1
  have HI := Lib.hid (GraphOrder_any w1 N bo dap E hE hEm)
  clear hnr hE hg1 HD
  go_wp2_with fail
  refine HI.out.mono ?_
  rintro e w2 ⟨v1, b, L, rfl, hrow1, hos, hg2⟩
  have hL16 := hos.len
  have hLm : L.length ≤ 1048576 := by omega
  have HOS := Lib.hid hos
  have HR1 := Lib.hid hrow1
  have HG2 := Lib.hid (grown_trans HG1.out hg2)
  have HE2 := Lib.hid (HE.out.kept hg2)
  have HS := Lib.hid (specOrder_any w2 N (by omega) (by omega) bo dap E HE2.out hEm)
  clear hrow1 hg2 hos HI HE HG1
  go_wp2_with fail
  refine HS.out.mono ?_
  rintro e w3 ⟨v2, b', L', rfl, hrow2, hos2, hg3⟩
  obtain ⟨rfl, rfl⟩ := HOS.out.one hos2
  have HR2 := Lib.hid hrow2
  have HR13 := Lib.hid (HR1.out.kept hg3 (by simp))
  have HG3 := Lib.hid (grown_trans HG2.out hg3)
  have HE3 := Lib.hid (HE2.out.kept hg3)
  have HCI := Lib.hid (GraphCycle_any w3 (HT.out.grown HG3.out) N bo dap E HE3.out hEm)
  clear hrow2 hg3 hos2 HS HE2 HG2 HR1
  go_wp2_with fail
  refine HCI.out.mono ?_
  rintro e w4 ⟨v4, R, rfl, hrow4, hcs, hg4⟩
  have hR16 := hcs.len
  have hRm : R.length ≤ 1048576 := by omega
  have HCS := Lib.hid hcs
  have HR4 := Lib.hid hrow4
  have HR14 := Lib.hid (HR13.out.kept hg4 (by simp))
  have HR24 := Lib.hid (HR2.out.kept hg4 (by simp))
  have HG4 := Lib.hid (grown_trans HG3.out hg4)
  have HE4 := Lib.hid (HE3.out.kept hg4)
  have hbb : (b != b) = false := by simp
  have HQ := Lib.hid (wsInts_same w4 L hLm _ _ v1 v2 HR14.out HR24.out)
  clear hrow4 hg4 hcs HCI HE3 HG3 HR13 HR2
  go_wp2_with fail
  refine HQ.out.mono ?_
  rintro e w5 ⟨rfl, hg5⟩
  have HR15 := Lib.hid (HR14.out.kept hg5 (by simp))
  have HR45 := Lib.hid (HR4.out.kept hg5 (by simp))
  have HG5 := Lib.hid (grown_trans HG4.out hg5)
  have HE5 := Lib.hid (HE4.out.kept hg5)
  have HSC := Lib.hid (specCycle_any w5 N (by omega) (by omega) bo dap E HE5.out hEm)
  clear hg5 HQ HE4 HG4 HR14 HR24 HR4
  go_wp2_with fail
  refine HSC.out.mono ?_
  rintro e w6 ⟨v6, R', rfl, hrow6, hcs6, hg6⟩
  obtain rfl := HCS.out.one hcs6
  have HR16 := Lib.hid (HR15.out.kept hg6 (by simp))
  have HR46 := Lib.hid (HR45.out.kept hg6 (by simp))
  have HG6 := Lib.hid (grown_trans HG5.out hg6)
  have HE6 := Lib.hid (HE5.out.kept hg6)
  have HQ6 := Lib.hid (wsInts_same w6 R hRm _ _ v4 v6 HR46.out hrow6)
  clear hrow6 hcs6 hg6 HSC HE5 HG5 HR15 HR45
  go_wp2_with fail
  refine HQ6.out.mono ?_
  rintro e w7 ⟨rfl, hg7⟩
  have HR17 := Lib.hid (HR16.out.kept hg7 (by simp))
  have HR47 := Lib.hid (HR46.out.kept hg7 (by simp))
  have HG7 := Lib.hid (grown_trans HG6.out hg7)
  have HE7 := Lib.hid (HE6.out.kept hg7)
  obtain ⟨tl, gl, cl, hvl, hcl, hta, hcc, -⟩ := row_ints HR17.out
  subst hvl
  obtain ⟨tr, gr, cr, hvr, -⟩ := row_ints HR47.out
  have HTA := Lib.hid hta
  have HCC := Lib.hid hcc
  clear hg7 HQ6 HE6 HG6 HR16 HR46 hta hcc
  cases b
  · subst hvr
    have hL0 : L = [] := HOS.out.none
    have hLb : ((L.length : Int) == 0) = true := by simp [hL0]
    clear hL0
    go_wp2
    go_ret
    exact ⟨rfl, HG7.out⟩
  · have hR0 : R = [] := ord_cyc HOS.out HCS.out
    rw [hR0, List.length_nil] at hvr
    subst hvr
    have hLN := HOS.out.behind.1
    have hLNb : ((L.length : Int) == N) = true := by simp [hLN]
    have HBH := Lib.hid HOS.out.behind.2
    have HLNB := Lib.hid hLNb
    clear hR0 hLN hLNb
    go_wp2
    go_loopw [10] (fun i wl => ∃ k c : Nat, k ≤ L.length ∧ i = .int .i64 k ∧ wl = w7.drewN c) (fun i _ => L.length - (intOf i).toNat)
    case atStart => exact ⟨0, 0, Nat.zero_le _, rfl, rfl⟩
    case round =>
      obtain ⟨i, c, hi, rfl, rfl⟩ := hrel
      by_cases hlt : i < L.length
      · have e1 := HTA.out (by omega)
        subst e1
        have hiI : (i : Int) < L.length := by omega
        obtain ⟨x, hx⟩ : ∃ x, x = L.getD i 0 := ⟨_, rfl⟩
        have HX := Lib.hid (show w7.cell? ⟨gl, i, none⟩ = some (.int .i64 x) from by rw [hx]; exact HCC.out i hlt)
        have HXE := Lib.hid hx
        have hlci : (i : Int) ≤ cl := by omega
        have hi0 : (0 : Int) ≤ (i : Int) := by omega
        have hlcl : (L.length : Int) ≤ cl := by omega
        clear hx
        go_wp2
        go_loopw [11] (fun kk wl => ∃ (k c' : Nat), k ≤ E.length ∧ kk = .int .i64 k ∧ wl = w7.drewN c') (fun kk _ => E.length - (intOf kk).toNat)
        case atStart => exact ⟨0, c, Nat.zero_le _, rfl, rfl⟩
        case round =>
          obtain ⟨k, c', hk, rfl, rfl⟩ := hrel
          by_cases hke : k < E.length
          · rcases HE7.out with h00 | ⟨ab, o, rfl, hc⟩
            · omega
            obtain ⟨f, hf⟩ : ∃ f, f = (E.getD k (0, 0)).1 := ⟨_, rfl⟩
            obtain ⟨g, hg⟩ : ∃ g, g = (E.getD k (0, 0)).2 := ⟨_, rfl⟩
            have d0 := (hc k hke).1
            have d1 := (hc k hke).2
            rw [← hf, Nat.mul_comm] at d0
            rw [← hg, Nat.mul_comm] at d1
            have D0 := Lib.hid d0
            have D1 := Lib.hid d1
            have hkI : (k : Int) < E.length := by omega
            have HFG := Lib.hid (And.intro hf hg)
            clear hf hg hc d0 d1
            by_cases hfx : f = x
            · have hfb : (f == x) = true := by simp [hfx]
              have HNO := Lib.hid (show decide (g ∈ L.take i) = true from decide_eq_true (by
                rw [HFG.out.2]
                exact HBH.out i hlt _ (mem_getD E k hke) (by rw [← HFG.out.1, hfx, HXE.out])))
              clear hfx
              go_wp2
              refine wp_still (by kernel_rfl) (by kernel_rfl) (fun wx => wx = w7.drewN (c' + 1)) rfl ?_
              rintro wx hwx
              have q0 := cell_drewN2 (c' + 1) D0.out
              have q1 := cell_drewN2 (c' + 1) D1.out
              have q2 := cell_drewN2 (c' + 1) HX.out
              rw [← hwx] at q0 q1 q2
              have hln : (L.take i).length = i := by simp; omega
              have HCL := Lib.hid (show Calls Tryd.prog 12 #[.slice (some ⟨gl, 0, none⟩) i cl, .int .i64 g] wx (fun e w' => e = .returned (.bool true) ∧ w' = wx) from by
                have h := wsHas_any wx (L.take i) (some ⟨gl, 0, none⟩) gl cl (fun _ => rfl) (fun j hj => by
                  have hj2 : j < i := by omega
                  have := cell_drewN2 (c' + 1) (HCC.out j (by omega))
                  rw [hwx, this]
                  simp [hj2]) (by omega) g
                rw [HNO.out, hln] at h
                exact h)
              have HWX := Lib.hid hwx
              clear hwx hln
              iterate 19 ((with_reducible refine wpStill_step ?_); intro K hK; replace hK := Lib.hid hK; go_simp; (with_reducible refine hK.out _ ?_); clear hK K)
              still_call (HCL.out)
              repeat ((with_reducible refine wpStill_step ?_); intro K hK; replace hK := Lib.hid hK; go_simp; (with_reducible refine hK.out _ ?_); clear hK K)
              refine wpStill_nil ?_
              clear q0 q1 q2 HCL hfb
              go_wp2
              exact ⟨⟨k + 1, c' + 1, by omega, by go_num, HWX.out⟩, by simp [intOf]; omega⟩
            · have hfb : (f == x) = false := by simp [hfx]
              clear hfx
              go_wp2
              refine wp_still (by kernel_rfl) (by kernel_rfl) (fun wx => wx = w7.drewN (c' + 1)) rfl ?_
              rintro wx hwx
              have q0 := cell_drewN2 (c' + 1) D0.out
              have q2 := cell_drewN2 (c' + 1) HX.out
              rw [← hwx] at q0 q2
              have HWX := Lib.hid hwx
              clear hwx
              repeat ((with_reducible refine wpStill_step ?_); intro K hK; replace hK := Lib.hid hK; go_simp; (with_reducible refine hK.out _ ?_); clear hK K)
              refine wpStill_nil ?_
              clear q0 q2 hfb
              go_wp2
              exact ⟨⟨k + 1, c' + 1, by omega, by go_num, HWX.out⟩, by simp [intOf]; omega⟩
          · obtain rfl : k = E.length := by omega
            go_wp2
            exact ⟨⟨i + 1, c', by omega, by go_num, rfl⟩, by simp [intOf]; omega⟩
      · obtain rfl : i = L.length := by omega
        have hLNb := HLNB.out
        go_wp2
        go_ret
        exact ⟨rfl, grown_drewN HG7.out _⟩
end Go.Proofs.YtklkfphpoheanaaDoor
