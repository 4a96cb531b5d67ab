/- The next sum, by the program. -/
import Derived.Test.YtdelijobaebfnaaDoorAB
import Derived.Test.YtdelijobaebfnaaDoorAF
namespace Go.Proofs.YtdelijobaebfnaaDoor
open Go.RowKit

theorem step_store_blk2 {P : Program} {ops : Array Oper} {o : Oper} {a : Act} {w : World} {K : Act → World → Prop} {Q : Exit → Act → World → Prop} {E : Prop} (hw : Region.wanted o (yielded ops a.tmps) = true) (ty : TypeId) (x y : Operand) (ho : o.op = .store ty x y)
    (g : Nat) (L old : List Value) (t : TypeId) (hg : Blk w g t old) (hi : (P.info? ty).map (·.size) = some L.length) (hold : old.length = L.length) (h1 : ∀ v ∈ L, v.oneCell' = true)
    (hx : a.eval x = .pointer (some ⟨g, 0, none⟩)) (hy : a.eval y = .agg L.toArray)
    (h : ∀ w', Hid (Blk w' g t L) → Hid (w.grownBy w' (some g)) → K (a.put o.dst undef) w') : if Region.wanted o (yielded ops a.tmps) = true then Oper.wp P o a w K Q else E := by
  rw [if_pos hw]
  refine wp_store_row ty x y ho g L.toArray hx hy t old.toArray hg (by simpa using hi) (by simpa using hold) (by simpa using h1) ?_
  exact h _ (Lib.hid (setRow_heap w g _ _ t _ hg)) (Lib.hid ⟨rfl, rfl, rfl, by simp [World.setRow], fun k _ hr => setRow_other w g k _ (fun e => hr (by rw [e]))⟩)
theorem infoSum : (Tryd.prog.info? 71).map (·.size) = some 2 := by kernel_rfl
theorem infoLink : (Tryd.prog.info? 73).map (·.size) = some 6 := by kernel_rfl

set_option maxRecDepth 100000 in
set_option maxHeartbeats 8000000 in
theorem inext_any (w : World) (hT : Tabs w) (hP : Pow w) (sm : ByteArray) (n : Nat) (ten wha det : ByteArray) (hn : n ≤ 1048576) (hle : (encI [sm, decS (n + 1), ten, wha, det]).length ≤ 4194304) :
    Calls Tryd.prog 60 #[.agg #[.int .i64 (n : Int), .string sm], .string ten, .string wha, .string det] w fun e w' => e = .returned (.agg #[.int .i64 ((n : Int) + 1), .string (sumE sm (n + 1) ten wha det)]) ∧ w.grownBy w' none := by
  obtain ⟨W, hW⟩ : ∃ W, (w.alloc (Obj.cells #[Value.int .i64 (n : Int), .string sm] 71)).alloc (Obj.cells #[Value.int .i64 0, .string ⟨#[]⟩] 71) = W := ⟨_, rfl⟩
  obtain ⟨B, hB⟩ : ∃ x, w.heap.size = x := ⟨_, rfl⟩
  obtain ⟨C, hC⟩ : ∃ x, B + 1 = x := ⟨_, rfl⟩
  have HG := Lib.hid (show w.grownBy W none from by rw [← hW]; exact grown_alloc (grown_alloc (grown_refl _ _) _) _)
  have HBB := Lib.hid (show Blk W B 71 [.int .i64 (n : Int), .string sm] from by rw [← hW, ← hB]; exact (Blk.new w 71 _).alloc _)
  have HCD := Lib.hid (show Blk W.drew C 71 [.int .i64 0, .string ⟨#[]⟩] from by
    rw [← hW, ← hC, ← hB]
    have := Blk.new (w.alloc (Obj.cells #[Value.int .i64 (n : Int), .string sm] 71)) 71 [Value.int .i64 0, .string ⟨#[]⟩]
    rw [show (w.alloc (Obj.cells #[Value.int .i64 (n : Int), .string sm] 71)).heap.size = w.heap.size + 1 from by simp] at this
    exact this)
  have HC1 := Lib.hid (show W.cell? ⟨B, 1, none⟩ = some (.string sm) from HBB.out.cell rfl)
  have c0 : W.cell? ⟨B, 0, none⟩ = some (.int .i64 (n : Int)) := HBB.out.cell rfl
  have HNE := Lib.hid (show B ≠ C ∧ w.heap.size ≤ C from ⟨by omega, by omega⟩)
  have HW := Lib.hid hW
  have HBE := Lib.hid hB
  have HCE := Lib.hid hC
  have HLE := Lib.hid hle
  have HTT := Lib.hid (fun (V : World) (hV : W.grownBy V (some C)) => hT.grown (grown_into HG.out hV HNE.out.2))
  have HPP := Lib.hid (fun (V : World) (hV : W.grownBy V (some C)) => hP.grown (grown_into HG.out hV HNE.out.2))
  obtain ⟨D, hD⟩ : ∃ D, decS (n + 1) = D := ⟨_, rfl⟩
  have HIT := Lib.hid (fun (V : World) (hV : Pow V) => show Calls Tryd.prog 52 #[.int .i64 ((n : Int) + 1)] V (fun e w' => e = .returned (.string D) ∧ V.grownBy w' none) from by
    have := itoa_nat (n + 1) (by omega) V hV
    rw [show ((n + 1 : Nat) : Int) = (n : Int) + 1 from by omega, hD] at this
    exact this)
  have HD := Lib.hid hD
  clear hW hB hC hle hD hT hP
  go_enter Tryd.func60, Tryd.ntmps60
  go_wp2
  rw [HW.out, HBE.out, HCE.out]
  refine wp_region_held_drew (S := fun V => W.grownBy V (some C)) (by kernel_rfl) (grown_drew (grown_refl _ _)) (fun hS => ?_)
  generalize W.drew = V0 at hS HCD ⊢
  try dsimp only at hS
  refine wpAnyH_take (i := 0) (oi := ⟨some 13, _, _, _, _, _⟩) (v := (.int .i64 ((n : Int) + 1))) rfl (by kernel_rfl) (by kernel_rfl) (by kernel_rfl) (fun _ _ _ h => h) (Or.inl ⟨by kernel_rfl, fun w' hSw => ?_⟩) hS ?_
  · go_simp
    all_goals first | rfl | (simp [*]; done)
  simp only [Act.put, List.setIfInBounds_toArray, List.set_cons_zero, List.set_cons_succ]
  refine wpAnyH_take (i := 1) (oi := ⟨some 14, _, _, _, _, _⟩) (v := (.pointer (some ⟨B, 1, none⟩))) rfl (by kernel_rfl) (by kernel_rfl) (by kernel_rfl) (fun _ _ _ h => h) (Or.inl ⟨by kernel_rfl, fun w' hSw => ?_⟩) hS ?_
  · go_simp
    all_goals first | rfl | (simp [*]; done)
  simp only [Act.put, List.setIfInBounds_toArray, List.set_cons_zero, List.set_cons_succ]
  refine wpAnyH_take (i := 2) (oi := ⟨some 15, _, _, _, _, _⟩) (v := (.string sm)) rfl (by kernel_rfl) (by kernel_rfl) (by kernel_rfl) (fun _ _ _ h => h) (Or.inl ⟨by kernel_rfl, fun w' hSw => ?_⟩) hS ?_
  · have kf0 := World.grownBy.cell hSw HC1.out (by have := HNE.out; simp; omega)
    go_simp
    all_goals first | rfl | (simp [*]; done)
  simp only [Act.put, List.setIfInBounds_toArray, List.set_cons_zero, List.set_cons_succ]
  refine wpAnyH_take (i := 3) (oi := ⟨some 16, _, _, _, _, _⟩) (v := (.int .i64 ((n : Int) + 1))) rfl (by kernel_rfl) (by kernel_rfl) (by kernel_rfl) (fun _ _ _ h => h) (Or.inl ⟨by kernel_rfl, fun w' hSw => ?_⟩) hS ?_
  · go_simp
    all_goals first | rfl | (simp [*]; done)
  simp only [Act.put, List.setIfInBounds_toArray, List.set_cons_zero, List.set_cons_succ]
  refine wpAnyH_take (i := 5) (oi := ⟨some 18, _, _, _, _, _⟩) (v := (.string ten)) rfl (by kernel_rfl) (by kernel_rfl) (by kernel_rfl) (fun _ _ _ h => h) (Or.inl ⟨by kernel_rfl, fun w' hSw => ?_⟩) hS ?_
  · go_simp
    all_goals first | rfl | (simp [*]; done)
  simp only [Act.put, List.setIfInBounds_toArray, List.set_cons_zero, List.set_cons_succ]
  refine wpAnyH_take (i := 6) (oi := ⟨some 19, _, _, _, _, _⟩) (v := (.string wha)) rfl (by kernel_rfl) (by kernel_rfl) (by kernel_rfl) (fun _ _ _ h => h) (Or.inl ⟨by kernel_rfl, fun w' hSw => ?_⟩) hS ?_
  · go_simp
    all_goals first | rfl | (simp [*]; done)
  simp only [Act.put, List.setIfInBounds_toArray, List.set_cons_zero, List.set_cons_succ]
  refine wpAnyH_take (i := 7) (oi := ⟨some 20, _, _, _, _, _⟩) (v := (.string det)) rfl (by kernel_rfl) (by kernel_rfl) (by kernel_rfl) (fun _ _ _ h => h) (Or.inl ⟨by kernel_rfl, fun w' hSw => ?_⟩) hS ?_
  · go_simp
    all_goals first | rfl | (simp [*]; done)
  simp only [Act.put, List.setIfInBounds_toArray, List.set_cons_zero, List.set_cons_succ]
  refine wpAnyH_ready (rs := [4]) (by kernel_rfl) (by simp) ?_
  refine AllReadyH.cons (o := ⟨some 17, _, _, _, _, _⟩) rfl (fun K hK => ?_) AllReadyH.nil
  go_simp
  refine (HIT.out _ (HPP.out _ hS)).mono ?_
  rintro e wa ⟨rfl, hga⟩
  go_simp
  have HCD' := Lib.hid (HCD.out.kept hga (by simp))
  clear HCD
  have HCD := HCD'
  clear HCD'
  have hS := grown_trans hS (grown_widen hga)
  refine hK.out _ _ hS (fun hS => ?_)
  clear hK hga
  refine wpAnyH_ready (rs := [8]) (by kernel_rfl) (by simp) ?_
  refine AllReadyH.cons (o := ⟨some 21, _, _, _, _, _⟩) rfl (fun K hK => ?_) AllReadyH.nil
  go_simp
  obtain ⟨VB, hVB⟩ : ∃ x, wa.alloc (Obj.cells #[Value.string sm, .string D, .string ten, .string wha, .string det] 9) = x := ⟨_, rfl⟩
  obtain ⟨GB, hGB⟩ : ∃ x, wa.heap.size = x := ⟨_, rfl⟩
  have hga := (show wa.grownBy VB none from by rw [← hVB]; exact World.grownBy_alloc _ _ none)
  have HGB := Lib.hid (show Blk VB GB 9 [Value.string sm, .string D, .string ten, .string wha, .string det] from by rw [← hVB, ← hGB]; exact Blk.new wa 9 [Value.string sm, .string D, .string ten, .string wha, .string det])
  rw [hVB, hGB]
  clear hVB hGB
  have HCD' := Lib.hid (HCD.out.kept hga (by simp))
  clear HCD
  have HCD := HCD'
  clear HCD'
  have hS := grown_trans hS (grown_widen hga)
  refine hK.out _ _ hS (fun hS => ?_)
  clear hK hga
  refine wpAnyH_ready (rs := [9]) (by kernel_rfl) (by simp) ?_
  refine AllReadyH.cons (o := ⟨some 22, _, _, _, _, _⟩) rfl (fun K hK => ?_) AllReadyH.nil
  go_simp
  refine (HashList_any _ (HTT.out _ hS) (HPP.out _ hS) [sm, D, ten, wha, det] GB 5 (some ⟨GB, 0, none⟩) (fun _ => rfl) (five_at HGB.out) (by rw [← HD.out]; exact HLE.out) (by simp)).mono ?_
  rintro e wc ⟨rfl, hga⟩
  go_simp
  have HCD' := Lib.hid (HCD.out.kept hga (by simp))
  clear HCD
  have HCD := HCD'
  clear HCD'
  have hS := grown_trans hS (grown_widen hga)
  refine hK.out _ _ hS (fun hS => ?_)
  clear hK hga
  refine wpAnyH_take (i := 10) (oi := ⟨some 23, _, _, _, _, _⟩) (v := (.agg #[.int .i64 ((n : Int) + 1), .string (strI (hexL (sha (encI [sm, D, ten, wha, det]))))])) rfl (by kernel_rfl) (by kernel_rfl) (by kernel_rfl) (fun _ _ _ h => h) (Or.inl ⟨by kernel_rfl, fun w' hSw => ?_⟩) hS ?_
  · go_simp
    all_goals first | rfl | (simp [*]; done)
  simp only [Act.put, List.setIfInBounds_toArray, List.set_cons_zero, List.set_cons_succ]
  refine wpAnyH_ready (rs := [11]) (by kernel_rfl) (by simp) ?_
  refine AllReadyH.cons (o := ⟨none, _, _, _, _, _⟩) rfl (fun K hK => ?_) AllReadyH.nil
  refine step_store_blk2 (by kernel_rfl) 71 _ _ rfl C [.int .i64 ((n : Int) + 1), .string (strI (hexL (sha (encI [sm, D, ten, wha, det]))))] [.int .i64 0, .string ⟨#[]⟩] 71 HCD.out infoSum rfl (by intro v hv; simp at hv; rcases hv with rfl | rfl <;> rfl) rfl rfl ?_
  intro wd hb3 hg3
  have hS := grown_trans hS hg3.out
  refine hK.out _ _ hS (fun hS => ?_)
  clear hK hg3
  refine wpAnyH_done (by kernel_rfl) ?_ _
  have HS := Lib.hid (grown_into HG.out hS HNE.out.2)
  have HSE := Lib.hid (show sumE sm (n + 1) ten wha det = strI (hexL (sha (encI [sm, D, ten, wha, det]))) from by unfold sumE; rw [HD.out])
  clear hS
  go_wp2
  exact ⟨rfl, _, results_blk1 Tryd.results60 _ _ C 71 _ _ hb3.out Tryd.underlying71 rfl infoSum rfl, by rw [HSE.out], HS.out⟩
end Go.Proofs.YtdelijobaebfnaaDoor
