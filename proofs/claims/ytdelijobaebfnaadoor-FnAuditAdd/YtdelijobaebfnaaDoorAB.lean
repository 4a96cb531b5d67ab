/- The sum of an entry, by the document. -/
import Derived.Test.YtdelijobaebfnaaDoorAA
namespace Go.Proofs.YtdelijobaebfnaaDoor
open Go.RowKit

theorem five_at {w : World} {g : Nat} {t : TypeId} {a b c d e : ByteArray} (h : Blk w g t [.string a, .string b, .string c, .string d, .string e]) : ∀ j, j < [a, b, c, d, e].length → w.cell? ⟨g, j, none⟩ = some (.string ([a, b, c, d, e].getD j ByteArray.empty)) := by
  intro j hj
  match j, hj with
  | 0, _ => exact h.cell rfl
  | 1, _ => exact h.cell rfl
  | 2, _ => exact h.cell rfl
  | 3, _ => exact h.cell rfl
  | 4, _ => exact h.cell rfl

set_option maxRecDepth 100000 in
set_option maxHeartbeats 8000000 in
theorem ssum_any (w : World) (b : ByteArray) (n : Nat) (ten wha det sum : ByteArray) (hn : n ≤ 1048577) (hle : (encI [b, decS n, ten, wha, det]).length ≤ 4194304) :
    Calls Tryd.prog 27 #[.string b, .agg #[.int .i64 (n : Int), .string ten, .string wha, .string det, .string sum]] w fun e w' => e = .returned (.string (sumE b n ten wha det)) ∧ w.grownBy w' none := by
  obtain ⟨W, hW⟩ : ∃ W, w.alloc (Obj.cells #[Value.int .i64 (n : Int), .string ten, .string wha, .string det, .string sum] 28) = W := ⟨_, rfl⟩
  obtain ⟨B, hB⟩ : ∃ x, w.heap.size = x := ⟨_, rfl⟩
  have HG := Lib.hid (show w.grownBy W none from by rw [← hW]; exact grown_alloc (grown_refl _ _) _)
  have HBB := Lib.hid (show Blk W B 28 [.int .i64 (n : Int), .string ten, .string wha, .string det, .string sum] from by rw [← hW, ← hB]; exact Blk.new w 28 _)
  have HC0 := Lib.hid (show W.cell? ⟨B, 0, none⟩ = some (.int .i64 (n : Int)) from HBB.out.cell rfl)
  have HC1 := Lib.hid (show W.cell? ⟨B, 1, none⟩ = some (.string ten) from HBB.out.cell rfl)
  have HC2 := Lib.hid (show W.cell? ⟨B, 2, none⟩ = some (.string wha) from HBB.out.cell rfl)
  have HC3 := Lib.hid (show W.cell? ⟨B, 3, none⟩ = some (.string det) from HBB.out.cell rfl)
  have HW := Lib.hid hW
  have HBE := Lib.hid hB
  have HLE := Lib.hid hle
  obtain ⟨D, hD⟩ : ∃ D, decS n = D := ⟨_, rfl⟩
  have HD := Lib.hid hD
  clear hW hB hle hD
  go_enter Tryd.func27, Tryd.ntmps27
  go_wp2
  rw [HW.out, HBE.out]
  refine wp_region_held_drew (S := fun V => W.grownBy V none) (by kernel_rfl) (grown_drew (grown_refl _ _)) (fun hS => ?_)
  generalize W.drew = V0 at hS  ⊢
  try dsimp only at hS
  refine wpAnyH_take (i := 0) (oi := ⟨some 5, _, _, _, _, _⟩) (v := (.string b)) rfl (by kernel_rfl) (by kernel_rfl) (by kernel_rfl) (fun _ _ _ h => h) (Or.inl ⟨by kernel_rfl, fun w' hSw => ?_⟩) hS ?_
  · go_simp
    all_goals first | rfl | (simp [*]; done)
  simp only [Act.put, List.setIfInBounds_toArray, List.set_cons_zero, List.set_cons_succ]
  refine wpAnyH_take (i := 1) (oi := ⟨some 6, _, _, _, _, _⟩) (v := (.pointer (some ⟨B, 0, none⟩))) rfl (by kernel_rfl) (by kernel_rfl) (by kernel_rfl) (fun _ _ _ h => h) (Or.inl ⟨by kernel_rfl, fun w' hSw => ?_⟩) hS ?_
  · go_simp
    all_goals first | rfl | (simp [*]; done)
  simp only [Act.put, List.setIfInBounds_toArray, List.set_cons_zero, List.set_cons_succ]
  refine wpAnyH_take (i := 2) (oi := ⟨some 7, _, _, _, _, _⟩) (v := (.int .i64 (n : Int))) rfl (by kernel_rfl) (by kernel_rfl) (by kernel_rfl) (fun _ _ _ h => h) (Or.inl ⟨by kernel_rfl, fun w' hSw => ?_⟩) hS ?_
  · have kf0 := World.grownBy.cell hSw HC0.out (by simp)
    go_simp
    all_goals first | rfl | (simp [*]; done)
  simp only [Act.put, List.setIfInBounds_toArray, List.set_cons_zero, List.set_cons_succ]
  refine wpAnyH_take (i := 4) (oi := ⟨some 9, _, _, _, _, _⟩) (v := (.pointer (some ⟨B, 1, none⟩))) rfl (by kernel_rfl) (by kernel_rfl) (by kernel_rfl) (fun _ _ _ h => h) (Or.inl ⟨by kernel_rfl, fun w' hSw => ?_⟩) hS ?_
  · go_simp
    all_goals first | rfl | (simp [*]; done)
  simp only [Act.put, List.setIfInBounds_toArray, List.set_cons_zero, List.set_cons_succ]
  refine wpAnyH_take (i := 5) (oi := ⟨some 10, _, _, _, _, _⟩) (v := (.string ten)) rfl (by kernel_rfl) (by kernel_rfl) (by kernel_rfl) (fun _ _ _ h => h) (Or.inl ⟨by kernel_rfl, fun w' hSw => ?_⟩) hS ?_
  · have kf0 := World.grownBy.cell hSw HC1.out (by simp)
    go_simp
    all_goals first | rfl | (simp [*]; done)
  simp only [Act.put, List.setIfInBounds_toArray, List.set_cons_zero, List.set_cons_succ]
  refine wpAnyH_take (i := 6) (oi := ⟨some 11, _, _, _, _, _⟩) (v := (.pointer (some ⟨B, 2, none⟩))) rfl (by kernel_rfl) (by kernel_rfl) (by kernel_rfl) (fun _ _ _ h => h) (Or.inl ⟨by kernel_rfl, fun w' hSw => ?_⟩) hS ?_
  · go_simp
    all_goals first | rfl | (simp [*]; done)
  simp only [Act.put, List.setIfInBounds_toArray, List.set_cons_zero, List.set_cons_succ]
  refine wpAnyH_take (i := 7) (oi := ⟨some 12, _, _, _, _, _⟩) (v := (.string wha)) rfl (by kernel_rfl) (by kernel_rfl) (by kernel_rfl) (fun _ _ _ h => h) (Or.inl ⟨by kernel_rfl, fun w' hSw => ?_⟩) hS ?_
  · have kf0 := World.grownBy.cell hSw HC2.out (by simp)
    go_simp
    all_goals first | rfl | (simp [*]; done)
  simp only [Act.put, List.setIfInBounds_toArray, List.set_cons_zero, List.set_cons_succ]
  refine wpAnyH_take (i := 8) (oi := ⟨some 13, _, _, _, _, _⟩) (v := (.pointer (some ⟨B, 3, none⟩))) rfl (by kernel_rfl) (by kernel_rfl) (by kernel_rfl) (fun _ _ _ h => h) (Or.inl ⟨by kernel_rfl, fun w' hSw => ?_⟩) hS ?_
  · go_simp
    all_goals first | rfl | (simp [*]; done)
  simp only [Act.put, List.setIfInBounds_toArray, List.set_cons_zero, List.set_cons_succ]
  refine wpAnyH_take (i := 9) (oi := ⟨some 14, _, _, _, _, _⟩) (v := (.string det)) rfl (by kernel_rfl) (by kernel_rfl) (by kernel_rfl) (fun _ _ _ h => h) (Or.inl ⟨by kernel_rfl, fun w' hSw => ?_⟩) hS ?_
  · have kf0 := World.grownBy.cell hSw HC3.out (by simp)
    go_simp
    all_goals first | rfl | (simp [*]; done)
  simp only [Act.put, List.setIfInBounds_toArray, List.set_cons_zero, List.set_cons_succ]
  refine wpAnyH_ready (rs := [3]) (by kernel_rfl) (by simp) ?_
  refine AllReadyH.cons (o := ⟨some 8, _, _, _, _, _⟩) rfl (fun K hK => ?_) AllReadyH.nil
  go_simp
  refine (dec_walk n _ (by omega)).mono ?_
  rintro e wa ⟨rfl, hga⟩
  rw [HD.out]
  go_simp
  have hS := grown_trans hS hga
  refine hK.out _ _ hS (fun hS => ?_)
  clear hK hga
  refine wpAnyH_ready (rs := [10]) (by kernel_rfl) (by simp) ?_
  refine AllReadyH.cons (o := ⟨some 15, _, _, _, _, _⟩) rfl (fun K hK => ?_) AllReadyH.nil
  go_simp
  obtain ⟨VB, hVB⟩ : ∃ x, wa.alloc (Obj.cells #[Value.string b, .string D, .string ten, .string wha, .string det] 9) = x := ⟨_, rfl⟩
  obtain ⟨GB, hGB⟩ : ∃ x, wa.heap.size = x := ⟨_, rfl⟩
  have hga := (show wa.grownBy VB none from by rw [← hVB]; exact World.grownBy_alloc _ _ none)
  have HGB := Lib.hid (show Blk VB GB 9 [Value.string b, .string D, .string ten, .string wha, .string det] from by rw [← hVB, ← hGB]; exact Blk.new wa 9 [Value.string b, .string D, .string ten, .string wha, .string det])
  rw [hVB, hGB]
  clear hVB hGB
  have hS := grown_trans hS hga
  refine hK.out _ _ hS (fun hS => ?_)
  clear hK hga
  refine wpAnyH_ready (rs := [11]) (by kernel_rfl) (by simp) ?_
  refine AllReadyH.cons (o := ⟨some 16, _, _, _, _, _⟩) rfl (fun K hK => ?_) AllReadyH.nil
  go_simp
  refine (specList_walk _ [b, D, ten, wha, det] GB 5 (some ⟨GB, 0, none⟩) (fun _ => rfl) (five_at HGB.out) (by rw [← HD.out]; exact HLE.out) (by simp)).mono ?_
  rintro e wc ⟨rfl, hga⟩
  go_simp
  have hS := grown_trans hS hga
  refine hK.out _ _ hS (fun hS => ?_)
  clear hK hga
  refine wpAnyH_take (i := 12) (oi := ⟨some 4, _, _, _, _, _⟩) (v := (.string (sumE b n ten wha det))) rfl (by kernel_rfl) (by kernel_rfl) (by kernel_rfl) (fun _ _ _ h => h) (Or.inl ⟨by kernel_rfl, fun w' hSw => ?_⟩) hS ?_
  · go_simp
    all_goals first | rfl | (simp [*]; done) | (unfold sumE; rw [HD.out]; done)
  simp only [Act.put, List.setIfInBounds_toArray, List.set_cons_zero, List.set_cons_succ]
  refine wpAnyH_done (by kernel_rfl) ?_ _
  have HS := Lib.hid hS
  clear hS
  go_wp2
  go_ret
  exact ⟨rfl, grown_trans HG.out HS.out⟩
end Go.Proofs.YtdelijobaebfnaaDoor
