/- Audits compared by the law. -/
import Derived.Test.YtdelijobaebfnaaDoorMa6
import Derived.Test.YtdelijobaebfnaaDoorMa2
namespace Go.Proofs.YtdelijobaebfnaaDoor
open Go.RowKit

def aggE (e : AE) : Value := .agg #[.int .i64 e.seq, .string e.ten, .string e.wha, .string e.det, .string e.sum]
set_option maxRecDepth 100000 in
set_option maxHeartbeats 4000000 in
theorem wsAudit_any (w : World) (b1 b2 : Nat) (us : List AE) (a1 a2 : Option Addr) (c1 c2 : Nat) (h1 : ELies w b1 a1 us) (h2 : ELies w b2 a2 us) (hn : us.length ≤ 1048576) :
    Calls Tryd.prog 18 #[.slice a1 us.length c1, .slice a2 us.length c2] w fun e w' => e = .returned (.bool true) ∧ w.grownBy w' none := by
  have HP := Lib.hid h1
  have HQ := Lib.hid h2
  have hne : ((us.length : Int) != (us.length : Int)) = false := by simp
  clear h1 h2
  go_enter Tryd.func18, Tryd.ntmps18
  go_wp2
  go_loopw [5] (fun i wr => ∃ k : Nat, k ≤ us.length ∧ i = .int .i64 k ∧ Hid (w.grownBy wr none)) (fun i _ => us.length - (intOf i).toNat)
  case atStart => exact ⟨0, Nat.zero_le _, rfl, Lib.hid (grown_refl _ _)⟩
  case round =>
    obtain ⟨k, hk, rfl, HG⟩ := hrel
    by_cases hlt : k < us.length
    · rcases HP.out with h0 | ⟨b, o, rfl, -, hc⟩
      · omega
      rcases HQ.out with h0 | ⟨bb, oo, rfl, -, hc2⟩
      · omega
      have t1 := hc k hlt
      have t2 := hc2 k hlt
      generalize us[k] = u at t1 t2
      obtain ⟨d0, d1, d2, d3, d4⟩ := t1.kept HG.out (by simp)
      obtain ⟨e0, e1, e2, e3, e4⟩ := t2.kept HG.out (by simp)
      have D0 := Lib.hid d0
      have E0 := Lib.hid e0
      have D1 := Lib.hid d1
      have E1 := Lib.hid e1
      have D2 := Lib.hid d2
      have E2 := Lib.hid e2
      have D3 := Lib.hid d3
      have E3 := Lib.hid e3
      have D4 := Lib.hid d4
      have E4 := Lib.hid e4
      have hkI : (k : Int) < us.length := by omega
      clear hc hc2 t1 t2 d0 d1 d2 d3 d4 e0 e1 e2 e3 e4
      go_wp2
      refine wp_region_held_drew (S := fun V => wr.grownBy V none) (by kernel_rfl) (grown_drew (grown_refl _ _)) (fun hS => ?_)
      generalize wr.drew = V0 at hS  ⊢
      try dsimp only at hS
      refine wpAnyH_take (i := 0) (oi := ⟨some 17, _, _, _, _, _⟩) (v := (.slice (some ⟨b, o, none⟩) us.length c1)) rfl (by kernel_rfl) (by kernel_rfl) (by kernel_rfl) (fun _ _ _ h => h) (Or.inl ⟨by kernel_rfl, fun w' hSw => ?_⟩) hS ?_
      · go_simp
        all_goals first | rfl | (simp [*]; done)
      simp only [Act.put, List.setIfInBounds_toArray, List.set_cons_zero, List.set_cons_succ]
      refine wpAnyH_take (i := 1) (oi := ⟨some 18, _, _, _, _, _⟩) (v := (.int .i64 (k : Int))) rfl (by kernel_rfl) (by kernel_rfl) (by kernel_rfl) (fun _ _ _ h => h) (Or.inl ⟨by kernel_rfl, fun w' hSw => ?_⟩) hS ?_
      · go_simp
        all_goals first | rfl | (simp [*]; done)
      simp only [Act.put, List.setIfInBounds_toArray, List.set_cons_zero, List.set_cons_succ]
      refine wpAnyH_take (i := 2) (oi := ⟨some 19, _, _, _, _, _⟩) (v := (.pointer (some ⟨b, o + k * 5, none⟩))) rfl (by kernel_rfl) (by kernel_rfl) (by kernel_rfl) (fun _ _ _ h => h) (Or.inl ⟨by kernel_rfl, fun w' hSw => ?_⟩) hS ?_
      · go_simp
        all_goals first | rfl | (simp [*]; done)
      simp only [Act.put, List.setIfInBounds_toArray, List.set_cons_zero, List.set_cons_succ]
      refine wpAnyH_take (i := 3) (oi := ⟨some 20, _, _, _, _, _⟩) (v := (aggE u)) rfl (by kernel_rfl) (by kernel_rfl) (by kernel_rfl) (fun _ _ _ h => h) (Or.inl ⟨by kernel_rfl, fun w' hSw => ?_⟩) hS ?_
      · have kf0 := World.grownBy.cell hSw D0.out (by simp)
        have kf1 := World.grownBy.cell hSw D1.out (by simp)
        have kf2 := World.grownBy.cell hSw D2.out (by simp)
        have kf3 := World.grownBy.cell hSw D3.out (by simp)
        have kf4 := World.grownBy.cell hSw D4.out (by simp)
        go_simp
        all_goals first | rfl | (simp [*]; done)
      simp only [Act.put, List.setIfInBounds_toArray, List.set_cons_zero, List.set_cons_succ]
      refine wpAnyH_take (i := 4) (oi := ⟨some 21, _, _, _, _, _⟩) (v := (.slice (some ⟨bb, oo, none⟩) us.length c2)) rfl (by kernel_rfl) (by kernel_rfl) (by kernel_rfl) (fun _ _ _ h => h) (Or.inl ⟨by kernel_rfl, fun w' hSw => ?_⟩) hS ?_
      · go_simp
        all_goals first | rfl | (simp [*]; done)
      simp only [Act.put, List.setIfInBounds_toArray, List.set_cons_zero, List.set_cons_succ]
      refine wpAnyH_take (i := 5) (oi := ⟨some 22, _, _, _, _, _⟩) (v := (.int .i64 (k : Int))) rfl (by kernel_rfl) (by kernel_rfl) (by kernel_rfl) (fun _ _ _ h => h) (Or.inl ⟨by kernel_rfl, fun w' hSw => ?_⟩) hS ?_
      · go_simp
        all_goals first | rfl | (simp [*]; done)
      simp only [Act.put, List.setIfInBounds_toArray, List.set_cons_zero, List.set_cons_succ]
      refine wpAnyH_take (i := 6) (oi := ⟨some 23, _, _, _, _, _⟩) (v := (.pointer (some ⟨bb, oo + k * 5, none⟩))) rfl (by kernel_rfl) (by kernel_rfl) (by kernel_rfl) (fun _ _ _ h => h) (Or.inl ⟨by kernel_rfl, fun w' hSw => ?_⟩) hS ?_
      · go_simp
        all_goals first | rfl | (simp [*]; done)
      simp only [Act.put, List.setIfInBounds_toArray, List.set_cons_zero, List.set_cons_succ]
      refine wpAnyH_take (i := 7) (oi := ⟨some 24, _, _, _, _, _⟩) (v := (aggE u)) rfl (by kernel_rfl) (by kernel_rfl) (by kernel_rfl) (fun _ _ _ h => h) (Or.inl ⟨by kernel_rfl, fun w' hSw => ?_⟩) hS ?_
      · have kf0 := World.grownBy.cell hSw E0.out (by simp)
        have kf1 := World.grownBy.cell hSw E1.out (by simp)
        have kf2 := World.grownBy.cell hSw E2.out (by simp)
        have kf3 := World.grownBy.cell hSw E3.out (by simp)
        have kf4 := World.grownBy.cell hSw E4.out (by simp)
        go_simp
        all_goals first | rfl | (simp [*]; done)
      simp only [Act.put, List.setIfInBounds_toArray, List.set_cons_zero, List.set_cons_succ]
      refine wpAnyH_take (i := 8) (oi := ⟨some 25, _, _, _, _, _⟩) (v := (.bool false)) rfl (by kernel_rfl) (by kernel_rfl) (by kernel_rfl) (fun _ _ _ h => h) (Or.inl ⟨by kernel_rfl, fun w' hSw => ?_⟩) hS ?_
      · simp only [aggE]
        go_simp
        all_goals first | rfl | (simp [*]; done)
      simp only [Act.put, List.setIfInBounds_toArray, List.set_cons_zero, List.set_cons_succ]
      refine wpAnyH_done (by kernel_rfl) ?_ _
      have HG2 := Lib.hid (grown_trans HG.out hS)
      clear hS
      go_wp2
      go_roundw
      case rel => exact ⟨k + 1, by omega, by go_num, HG2⟩
      case measure => simp [intOf]; omega
    · obtain rfl : k = us.length := by omega
      go_wp2
      go_ret
      exact ⟨rfl, HG.out⟩
end Go.Proofs.YtdelijobaebfnaaDoor
