/- A chain's entries told, by the program. -/
import Derived.Test.YtdelijobaebfnaaDoorAJ
import Derived.Test.YtdelijobaebfnaaDoorMa10
namespace Go.Proofs.YtdelijobaebfnaaDoor
open Go.RowKit

theorem entV_one (a : Int) (b c d e : ByteArray) : ∀ v ∈ [Value.int .i64 a, .string b, .string c, .string d, .string e], v.oneCell' = true := by
  intro v hv
  simp at hv
  rcases hv with rfl | rfl | rfl | rfl | rfl <;> rfl
theorem Chain.keptG {w w' : World} {es : List AE} {g : Nat} (hg : w.grownBy w' (some g)) : ∀ {k B : Nat}, Chain w es k B → (∀ (X : Nat) (t : TypeId) (L : List Value), Blk w X t L → t = 73 → X ≠ g) → Chain w' es k B
  | 0, B, h, hn => Blk.kept h hg (fun e => hn B _ _ h rfl (Option.some.inj e))
  | _ + 1, B, ⟨u, B', h1, h2, h3⟩, hn => ⟨u, B', h1, h2.kept hg (fun e => hn B _ _ h2 rfl (Option.some.inj e)), Chain.keptG hg h3 hn⟩
/-- a pointer's address -/
def ptrA : Value → Addr
  | .pointer (some a) => a
  | _ => ⟨0, 0, none⟩
/-- the number in a link -/
def seqOf (l : Value) (w : World) : Nat := (intOf ((w.cell? (ptrA l)).getD undef)).toNat
theorem zs5_snoc : ∀ m : Nat, zs5 (m + 1) = zs5 m ++ z5
  | 0 => by simp [zs5]
  | m + 1 => by
    show z5 ++ zs5 (m + 1) = (z5 ++ zs5 m) ++ z5
    rw [zs5_snoc m, List.append_assoc]
theorem back_set (m : Nat) (Y : List Value) (c0 c1 c2 c3 c4 : Value) : (((((zs5 (m + 1) ++ Y).set (m * 5) c0).set (m * 5 + 1) c1).set (m * 5 + 2) c2).set (m * 5 + 3) c3).set (m * 5 + 4) c4 = zs5 m ++ ([c0, c1, c2, c3, c4] ++ Y) := by
  have hl := zs5_len m
  rw [zs5_snoc, List.append_assoc]
  simp [hl, z5]
theorem back_get (m j : Nat) (Y : List Value) (hj : j < 5) : (zs5 (m + 1) ++ Y)[m * 5 + j]? = z5[j]? := by
  have hl := zs5_len m
  rw [zs5_snoc, List.append_assoc, List.getElem?_append_right (by omega), List.getElem?_append_left (by simp [z5]; omega)]
  congr 1
  omega

set_option maxRecDepth 100000 in
set_option maxHeartbeats 8000000 in
theorem itell_any (w : World) (B : Nat) (sq : Int) (ten wha det sm : ByteArray) (v : Value) (hb : Blk w B 73 (linkC sq sm ten wha det v)) (h1 : ten.size ≤ 1048576) (h2 : wha.size ≤ 1048576) (h3 : det.size ≤ 1048576) (h4 : sm.size ≤ 1048576) :
    Calls Tryd.prog 61 #[.pointer (some ⟨B, 0, none⟩)] w fun e w' => e = .returned (.agg #[.int .i64 sq, .string ten, .string wha, .string det, .string sm]) ∧ w.grownBy w' none := by
  obtain ⟨W, hW⟩ : ∃ W, w.alloc (Obj.cells #[Value.int .i64 0, .string ⟨#[]⟩, .string ⟨#[]⟩, .string ⟨#[]⟩, .string ⟨#[]⟩] 28) = W := ⟨_, rfl⟩
  obtain ⟨C, hC⟩ : ∃ x, w.heap.size = x := ⟨_, rfl⟩
  have hg := (show w.grownBy W none from by rw [← hW]; exact grown_alloc (grown_refl _ _) _)
  have HG := Lib.hid hg
  have HCD := Lib.hid (show Blk W.drew C 28 [.int .i64 0, .string ⟨#[]⟩, .string ⟨#[]⟩, .string ⟨#[]⟩, .string ⟨#[]⟩] from by rw [← hW, ← hC]; exact Blk.new w 28 _)
  have hbW := hb.kept hg (by simp)
  have HC0 := Lib.hid (show W.cell? ⟨B, 0, none⟩ = some (.int .i64 sq) from hbW.cell rfl)
  have HC1 := Lib.hid (show W.cell? ⟨B, 1, none⟩ = some (.string sm) from hbW.cell rfl)
  have HC2 := Lib.hid (show W.cell? ⟨B, 2, none⟩ = some (.string ten) from hbW.cell rfl)
  have HC3 := Lib.hid (show W.cell? ⟨B, 3, none⟩ = some (.string wha) from hbW.cell rfl)
  have HC4 := Lib.hid (show W.cell? ⟨B, 4, none⟩ = some (.string det) from hbW.cell rfl)
  have HNE := Lib.hid (show B ≠ C ∧ w.heap.size ≤ C from ⟨by have := hb.lt; omega, by omega⟩)
  have HW := Lib.hid hW
  have HCE := Lib.hid hC
  clear hW hC hg hb hbW
  go_enter Tryd.func61, Tryd.ntmps61
  go_wp2
  rw [HW.out, HCE.out]
  refine wp_region_held_drew (S := fun V => W.grownBy V (some C)) (by kernel_rfl) (grown_drew (grown_refl _ _)) (fun hS => ?_)
  generalize W.drew = V0 at hS HCD ⊢
  try dsimp only at hS
  refine wpAnyH_take (i := 0) (oi := ⟨some 3, _, _, _, _, _⟩) (v := (.pointer (some ⟨B, 0, none⟩))) rfl (by kernel_rfl) (by kernel_rfl) (by kernel_rfl) (fun _ _ _ h => h) (Or.inl ⟨by kernel_rfl, fun w' hSw => ?_⟩) hS ?_
  · go_simp
    all_goals first | rfl | (simp [*]; done)
  simp only [Act.put, List.setIfInBounds_toArray, List.set_cons_zero, List.set_cons_succ]
  refine wpAnyH_take (i := 1) (oi := ⟨some 4, _, _, _, _, _⟩) (v := (.pointer (some ⟨B, 0, none⟩))) rfl (by kernel_rfl) (by kernel_rfl) (by kernel_rfl) (fun _ _ _ h => h) (Or.inl ⟨by kernel_rfl, fun w' hSw => ?_⟩) hS ?_
  · go_simp
    all_goals first | rfl | (simp [*]; done)
  simp only [Act.put, List.setIfInBounds_toArray, List.set_cons_zero, List.set_cons_succ]
  refine wpAnyH_take (i := 2) (oi := ⟨some 5, _, _, _, _, _⟩) (v := (.pointer (some ⟨B, 0, none⟩))) rfl (by kernel_rfl) (by kernel_rfl) (by kernel_rfl) (fun _ _ _ h => h) (Or.inl ⟨by kernel_rfl, fun w' hSw => ?_⟩) hS ?_
  · go_simp
    all_goals first | rfl | (simp [*]; done)
  simp only [Act.put, List.setIfInBounds_toArray, List.set_cons_zero, List.set_cons_succ]
  refine wpAnyH_take (i := 3) (oi := ⟨some 6, _, _, _, _, _⟩) (v := (.pointer (some ⟨B, 0, none⟩))) rfl (by kernel_rfl) (by kernel_rfl) (by kernel_rfl) (fun _ _ _ h => h) (Or.inl ⟨by kernel_rfl, fun w' hSw => ?_⟩) hS ?_
  · go_simp
    all_goals first | rfl | (simp [*]; done)
  simp only [Act.put, List.setIfInBounds_toArray, List.set_cons_zero, List.set_cons_succ]
  refine wpAnyH_take (i := 4) (oi := ⟨some 7, _, _, _, _, _⟩) (v := (.int .i64 sq)) rfl (by kernel_rfl) (by kernel_rfl) (by kernel_rfl) (fun _ _ _ h => h) (Or.inl ⟨by kernel_rfl, fun w' hSw => ?_⟩) hS ?_
  · have kf0 := World.grownBy.cell hSw HC0.out (by have := HNE.out; simp; omega)
    go_simp
    all_goals first | rfl | (simp [*]; done)
  simp only [Act.put, List.setIfInBounds_toArray, List.set_cons_zero, List.set_cons_succ]
  refine wpAnyH_take (i := 5) (oi := ⟨some 8, _, _, _, _, _⟩) (v := (.pointer (some ⟨B, 0, none⟩))) rfl (by kernel_rfl) (by kernel_rfl) (by kernel_rfl) (fun _ _ _ h => h) (Or.inl ⟨by kernel_rfl, fun w' hSw => ?_⟩) hS ?_
  · go_simp
    all_goals first | rfl | (simp [*]; done)
  simp only [Act.put, List.setIfInBounds_toArray, List.set_cons_zero, List.set_cons_succ]
  refine wpAnyH_take (i := 6) (oi := ⟨some 9, _, _, _, _, _⟩) (v := (.pointer (some ⟨B, 0, none⟩))) rfl (by kernel_rfl) (by kernel_rfl) (by kernel_rfl) (fun _ _ _ h => h) (Or.inl ⟨by kernel_rfl, fun w' hSw => ?_⟩) hS ?_
  · go_simp
    all_goals first | rfl | (simp [*]; done)
  simp only [Act.put, List.setIfInBounds_toArray, List.set_cons_zero, List.set_cons_succ]
  refine wpAnyH_take (i := 7) (oi := ⟨some 10, _, _, _, _, _⟩) (v := (.pointer (some ⟨B, 2, none⟩))) rfl (by kernel_rfl) (by kernel_rfl) (by kernel_rfl) (fun _ _ _ h => h) (Or.inl ⟨by kernel_rfl, fun w' hSw => ?_⟩) hS ?_
  · go_simp
    all_goals first | rfl | (simp [*]; done)
  simp only [Act.put, List.setIfInBounds_toArray, List.set_cons_zero, List.set_cons_succ]
  refine wpAnyH_take (i := 8) (oi := ⟨some 11, _, _, _, _, _⟩) (v := (.string ten)) rfl (by kernel_rfl) (by kernel_rfl) (by kernel_rfl) (fun _ _ _ h => h) (Or.inl ⟨by kernel_rfl, fun w' hSw => ?_⟩) hS ?_
  · have kf0 := World.grownBy.cell hSw HC2.out (by have := HNE.out; simp; omega)
    go_simp
    all_goals first | rfl | (simp [*]; done)
  simp only [Act.put, List.setIfInBounds_toArray, List.set_cons_zero, List.set_cons_succ]
  refine wpAnyH_take (i := 10) (oi := ⟨some 13, _, _, _, _, _⟩) (v := (.pointer (some ⟨B, 0, none⟩))) rfl (by kernel_rfl) (by kernel_rfl) (by kernel_rfl) (fun _ _ _ h => h) (Or.inl ⟨by kernel_rfl, fun w' hSw => ?_⟩) hS ?_
  · go_simp
    all_goals first | rfl | (simp [*]; done)
  simp only [Act.put, List.setIfInBounds_toArray, List.set_cons_zero, List.set_cons_succ]
  refine wpAnyH_take (i := 11) (oi := ⟨some 14, _, _, _, _, _⟩) (v := (.pointer (some ⟨B, 0, none⟩))) rfl (by kernel_rfl) (by kernel_rfl) (by kernel_rfl) (fun _ _ _ h => h) (Or.inl ⟨by kernel_rfl, fun w' hSw => ?_⟩) hS ?_
  · go_simp
    all_goals first | rfl | (simp [*]; done)
  simp only [Act.put, List.setIfInBounds_toArray, List.set_cons_zero, List.set_cons_succ]
  refine wpAnyH_take (i := 12) (oi := ⟨some 15, _, _, _, _, _⟩) (v := (.pointer (some ⟨B, 3, none⟩))) rfl (by kernel_rfl) (by kernel_rfl) (by kernel_rfl) (fun _ _ _ h => h) (Or.inl ⟨by kernel_rfl, fun w' hSw => ?_⟩) hS ?_
  · go_simp
    all_goals first | rfl | (simp [*]; done)
  simp only [Act.put, List.setIfInBounds_toArray, List.set_cons_zero, List.set_cons_succ]
  refine wpAnyH_take (i := 13) (oi := ⟨some 16, _, _, _, _, _⟩) (v := (.string wha)) rfl (by kernel_rfl) (by kernel_rfl) (by kernel_rfl) (fun _ _ _ h => h) (Or.inl ⟨by kernel_rfl, fun w' hSw => ?_⟩) hS ?_
  · have kf0 := World.grownBy.cell hSw HC3.out (by have := HNE.out; simp; omega)
    go_simp
    all_goals first | rfl | (simp [*]; done)
  simp only [Act.put, List.setIfInBounds_toArray, List.set_cons_zero, List.set_cons_succ]
  refine wpAnyH_take (i := 15) (oi := ⟨some 18, _, _, _, _, _⟩) (v := (.pointer (some ⟨B, 0, none⟩))) rfl (by kernel_rfl) (by kernel_rfl) (by kernel_rfl) (fun _ _ _ h => h) (Or.inl ⟨by kernel_rfl, fun w' hSw => ?_⟩) hS ?_
  · go_simp
    all_goals first | rfl | (simp [*]; done)
  simp only [Act.put, List.setIfInBounds_toArray, List.set_cons_zero, List.set_cons_succ]
  refine wpAnyH_take (i := 16) (oi := ⟨some 19, _, _, _, _, _⟩) (v := (.pointer (some ⟨B, 0, none⟩))) rfl (by kernel_rfl) (by kernel_rfl) (by kernel_rfl) (fun _ _ _ h => h) (Or.inl ⟨by kernel_rfl, fun w' hSw => ?_⟩) hS ?_
  · go_simp
    all_goals first | rfl | (simp [*]; done)
  simp only [Act.put, List.setIfInBounds_toArray, List.set_cons_zero, List.set_cons_succ]
  refine wpAnyH_take (i := 17) (oi := ⟨some 20, _, _, _, _, _⟩) (v := (.pointer (some ⟨B, 4, none⟩))) rfl (by kernel_rfl) (by kernel_rfl) (by kernel_rfl) (fun _ _ _ h => h) (Or.inl ⟨by kernel_rfl, fun w' hSw => ?_⟩) hS ?_
  · go_simp
    all_goals first | rfl | (simp [*]; done)
  simp only [Act.put, List.setIfInBounds_toArray, List.set_cons_zero, List.set_cons_succ]
  refine wpAnyH_take (i := 18) (oi := ⟨some 21, _, _, _, _, _⟩) (v := (.string det)) rfl (by kernel_rfl) (by kernel_rfl) (by kernel_rfl) (fun _ _ _ h => h) (Or.inl ⟨by kernel_rfl, fun w' hSw => ?_⟩) hS ?_
  · have kf0 := World.grownBy.cell hSw HC4.out (by have := HNE.out; simp; omega)
    go_simp
    all_goals first | rfl | (simp [*]; done)
  simp only [Act.put, List.setIfInBounds_toArray, List.set_cons_zero, List.set_cons_succ]
  refine wpAnyH_take (i := 20) (oi := ⟨some 23, _, _, _, _, _⟩) (v := (.pointer (some ⟨B, 0, none⟩))) rfl (by kernel_rfl) (by kernel_rfl) (by kernel_rfl) (fun _ _ _ h => h) (Or.inl ⟨by kernel_rfl, fun w' hSw => ?_⟩) hS ?_
  · go_simp
    all_goals first | rfl | (simp [*]; done)
  simp only [Act.put, List.setIfInBounds_toArray, List.set_cons_zero, List.set_cons_succ]
  refine wpAnyH_take (i := 21) (oi := ⟨some 24, _, _, _, _, _⟩) (v := (.pointer (some ⟨B, 0, none⟩))) rfl (by kernel_rfl) (by kernel_rfl) (by kernel_rfl) (fun _ _ _ h => h) (Or.inl ⟨by kernel_rfl, fun w' hSw => ?_⟩) hS ?_
  · go_simp
    all_goals first | rfl | (simp [*]; done)
  simp only [Act.put, List.setIfInBounds_toArray, List.set_cons_zero, List.set_cons_succ]
  refine wpAnyH_take (i := 22) (oi := ⟨some 25, _, _, _, _, _⟩) (v := (.pointer (some ⟨B, 0, none⟩))) rfl (by kernel_rfl) (by kernel_rfl) (by kernel_rfl) (fun _ _ _ h => h) (Or.inl ⟨by kernel_rfl, fun w' hSw => ?_⟩) hS ?_
  · go_simp
    all_goals first | rfl | (simp [*]; done)
  simp only [Act.put, List.setIfInBounds_toArray, List.set_cons_zero, List.set_cons_succ]
  refine wpAnyH_take (i := 23) (oi := ⟨some 26, _, _, _, _, _⟩) (v := (.pointer (some ⟨B, 1, none⟩))) rfl (by kernel_rfl) (by kernel_rfl) (by kernel_rfl) (fun _ _ _ h => h) (Or.inl ⟨by kernel_rfl, fun w' hSw => ?_⟩) hS ?_
  · go_simp
    all_goals first | rfl | (simp [*]; done)
  simp only [Act.put, List.setIfInBounds_toArray, List.set_cons_zero, List.set_cons_succ]
  refine wpAnyH_take (i := 24) (oi := ⟨some 27, _, _, _, _, _⟩) (v := (.string sm)) rfl (by kernel_rfl) (by kernel_rfl) (by kernel_rfl) (fun _ _ _ h => h) (Or.inl ⟨by kernel_rfl, fun w' hSw => ?_⟩) hS ?_
  · have kf0 := World.grownBy.cell hSw HC1.out (by have := HNE.out; simp; omega)
    go_simp
    all_goals first | rfl | (simp [*]; done)
  simp only [Act.put, List.setIfInBounds_toArray, List.set_cons_zero, List.set_cons_succ]
  refine wpAnyH_ready (rs := [9]) (by kernel_rfl) (by simp) ?_
  refine AllReadyH.cons (o := ⟨some 12, _, _, _, _, _⟩) rfl (fun K hK => ?_) AllReadyH.nil
  go_simp
  refine (clone_any _ _ h1).mono ?_
  rintro e wa ⟨rfl, hga⟩
  go_simp
  have HCD' := Lib.hid (HCD.out.kept hga (by simp))
  clear HCD
  have HCD := HCD'
  clear HCD'
  have hS := grown_trans hS (grown_widen hga)
  refine hK.out _ _ hS (fun hS => ?_)
  clear hK hga
  refine wpAnyH_ready (rs := [14]) (by kernel_rfl) (by simp) ?_
  refine AllReadyH.cons (o := ⟨some 17, _, _, _, _, _⟩) rfl (fun K hK => ?_) AllReadyH.nil
  go_simp
  refine (clone_any _ _ h2).mono ?_
  rintro e wb ⟨rfl, hga⟩
  go_simp
  have HCD' := Lib.hid (HCD.out.kept hga (by simp))
  clear HCD
  have HCD := HCD'
  clear HCD'
  have hS := grown_trans hS (grown_widen hga)
  refine hK.out _ _ hS (fun hS => ?_)
  clear hK hga
  refine wpAnyH_ready (rs := [19]) (by kernel_rfl) (by simp) ?_
  refine AllReadyH.cons (o := ⟨some 22, _, _, _, _, _⟩) rfl (fun K hK => ?_) AllReadyH.nil
  go_simp
  refine (clone_any _ _ h3).mono ?_
  rintro e wc ⟨rfl, hga⟩
  go_simp
  have HCD' := Lib.hid (HCD.out.kept hga (by simp))
  clear HCD
  have HCD := HCD'
  clear HCD'
  have hS := grown_trans hS (grown_widen hga)
  refine hK.out _ _ hS (fun hS => ?_)
  clear hK hga
  refine wpAnyH_ready (rs := [25]) (by kernel_rfl) (by simp) ?_
  refine AllReadyH.cons (o := ⟨some 28, _, _, _, _, _⟩) rfl (fun K hK => ?_) AllReadyH.nil
  go_simp
  refine (clone_any _ _ h4).mono ?_
  rintro e wd ⟨rfl, hga⟩
  go_simp
  have HCD' := Lib.hid (HCD.out.kept hga (by simp))
  clear HCD
  have HCD := HCD'
  clear HCD'
  have hS := grown_trans hS (grown_widen hga)
  refine hK.out _ _ hS (fun hS => ?_)
  clear hK hga
  refine wpAnyH_take (i := 26) (oi := ⟨some 29, _, _, _, _, _⟩) (v := (.agg #[.int .i64 sq, .string ten, .string wha, .string det, .string sm])) rfl (by kernel_rfl) (by kernel_rfl) (by kernel_rfl) (fun _ _ _ h => h) (Or.inl ⟨by kernel_rfl, fun w' hSw => ?_⟩) hS ?_
  · go_simp
    all_goals first | rfl | (simp [*]; done)
  simp only [Act.put, List.setIfInBounds_toArray, List.set_cons_zero, List.set_cons_succ]
  refine wpAnyH_ready (rs := [27]) (by kernel_rfl) (by simp) ?_
  refine AllReadyH.cons (o := ⟨none, _, _, _, _, _⟩) rfl (fun K hK => ?_) AllReadyH.nil
  refine step_store_blk2 (by kernel_rfl) 28 _ _ rfl C [.int .i64 sq, .string ten, .string wha, .string det, .string sm] [.int .i64 0, .string ⟨#[]⟩, .string ⟨#[]⟩, .string ⟨#[]⟩, .string ⟨#[]⟩] 28 HCD.out info83s rfl (entV_one _ _ _ _ _) rfl rfl ?_
  intro we hb3 hg3
  have hS := grown_trans hS hg3.out
  refine hK.out _ _ hS (fun hS => ?_)
  clear hK hg3
  refine wpAnyH_done (by kernel_rfl) ?_ _
  have HS := Lib.hid (grown_into HG.out hS HNE.out.2)
  clear hS
  go_wp2
  exact ⟨rfl, _, results_blk1 Tryd.results61 _ _ C 28 _ _ hb3.out Tryd.underlying28 rfl info83s rfl, rfl, HS.out⟩

set_option maxRecDepth 100000 in
set_option maxHeartbeats 16000000 in
theorem ientries_any (w : World) (es : List AE) (B : Nat) (hc : Chain w es es.length B) (hn : es.length ≤ 200) (hz : EZ es) (hs : ∀ j (hj : j < es.length), StepP es j es[j]) :
    Calls Tryd.prog 38 #[.pointer (some ⟨B, 0, none⟩)] w fun e w' => e = .returned (.slice (some ⟨w.heap.size, 0, none⟩) es.length es.length) ∧ Blk w' w.heap.size 28 (entsV es) ∧ w.grownBy w' none := by
  obtain ⟨i83, hi83, hz0, hz1, hz2⟩ := info_parts info83
  have hmk : ∀ W : World, (Instr.makeSlice 23 (.int .i64 (es.length : Int)) (.int .i64 (es.length : Int))).run Tryd.prog W = .ok (.slice (some ⟨W.heap.size, 0, none⟩) es.length es.length) (W.alloc (.cells (madeCells #[Value.int .i64 0, .string ⟨#[]⟩, .string ⟨#[]⟩, .string ⟨#[]⟩, .string ⟨#[]⟩] (es.length * 5)) 28)) := fun W => by
    have := run_make (P := Tryd.prog) W 23 28 i83 (.agg #[Value.int .i64 0, .string ⟨#[]⟩, .string ⟨#[]⟩, .string ⟨#[]⟩, .string ⟨#[]⟩]) Tryd.underlying23 hi83 hz0 .i64 .i64 es.length (es.length : Int) (by omega) (by omega) (by rw [hz2]; omega) (by omega)
    rw [this, hz1, show ((es.length : Int)).toNat = es.length from by omega]
    simp [Value.cells]
  have HB0 := Lib.hid (show Blk (w.alloc (.cells (madeCells #[Value.int .i64 0, .string ⟨#[]⟩, .string ⟨#[]⟩, .string ⟨#[]⟩, .string ⟨#[]⟩] (es.length * 5)) 28)) w.heap.size 28 (zs5 es.length ++ entsV (es.drop es.length)) from by
    rw [made_five, List.drop_length]
    simp only [entsV, List.append_nil]
    exact Blk.new w 28 _)
  have HS := Lib.hid hs
  have HZ := Lib.hid hz
  have HC0 := Lib.hid hc
  have p0 := (hc.head (Nat.le_refl _) (fun j hj _ => hs j hj)).1
  have HHD := Lib.hid (fun (V : World) (k B : Nat) (h : Chain V es k B) (hk : k ≤ es.length) => (h.head hk (fun j hj _ => hs j hj)).1)
  clear hc hs hz
  go_enter Tryd.func38, Tryd.ntmps38
  go_wp2
  obtain ⟨g, hge⟩ : ∃ x, w.heap.size = x := ⟨_, rfl⟩
  rw [hge] at HB0 ⊢
  have HGE := Lib.hid (show w.heap.size ≤ g from by omega)
  have HGE2 := Lib.hid hge
  clear hge
  go_loopw [4] (fun l wr => ∃ k B' : Nat, k ≤ es.length ∧ l = .pointer (some ⟨B', 0, none⟩) ∧ Hid (Chain wr es k B') ∧ Hid (Blk wr g 28 (zs5 k ++ entsV (es.drop k))) ∧ w.grownBy wr none) (fun l wr => seqOf l wr)
  case atStart => exact ⟨es.length, B, Nat.le_refl _, rfl, Lib.hid (HC0.out.kept (World.grownBy_alloc _ _ _)), HB0, grown_alloc (grown_refl _ _) _⟩
  case round =>
    obtain ⟨k, B', hk, rfl, HC, HB, hg⟩ := hrel
    have HG := Lib.hid hg
    clear hg
    have q0 := HHD.out wr k B' HC.out hk
    cases k with
    | zero =>
      have q5 : wr.cell? ⟨B', 5, none⟩ = some (.pointer none) := Blk.cell HC.out rfl
      have HBF := Lib.hid (show Blk wr g 28 (entsV es) from HB.out)
      go_wp2
      go_ret
      exact ⟨by rw [HGE2.out]; rfl, by rw [HGE2.out]; exact HBF.out, HG.out⟩
    | succ m =>
      obtain ⟨u, B2, hu, hb, hc2⟩ := HC.out
      have hm : m < es.length := by omega
      have hum : es[m] = u := by
        rw [List.getElem?_eq_getElem hm] at hu
        exact Option.some.inj hu
      have HDR := Lib.hid (show es.drop m = u :: es.drop (m + 1) from by rw [← hum]; exact List.drop_eq_getElem_cons hm)
      obtain ⟨z1, z2, z3, z4⟩ := (show _ from hum ▸ HZ.out es[m] (List.getElem_mem hm) : u.ten.size ≤ 1048576 ∧ u.wha.size ≤ 1048576 ∧ u.det.size ≤ 1048576 ∧ u.sum.size ≤ 1048576)
      obtain ⟨sq, ten, wha, det, sm⟩ := u
      simp only at hb z1 z2 z3 z4 HDR
      have HC2 := Lib.hid hc2
      have q5 : wr.cell? ⟨B', 5, none⟩ = some (.pointer (some ⟨B2, 0, none⟩)) := hb.cell rfl
      have HQ0 := Lib.hid q0
      have HBN := Lib.hid (show B' ≠ g from fun e => by
        have h1 : wr.heap[B']? = some (.cells (linkC sq sm ten wha det (.pointer (some ⟨B2, 0, none⟩))).toArray 73 (0, 0)) := hb
        have h2 : wr.heap[g]? = some (.cells (zs5 (m + 1) ++ entsV (es.drop (m + 1))).toArray 28 (0, 0)) := HB.out
        rw [e, h2] at h1
        injection h1 with h3
        injection h3 with h4 h5 h6
        exact absurd h5 (by decide))
      have HTE := Lib.hid (fun (V : World) (hV : wr.grownBy V (some g)) => itell_any V B' sq ten wha det sm _ (hb.kept hV (by have := HBN.out; simp; omega)) z1 z2 z3 z4)
      have HGD := Lib.hid (show Blk wr.drew g 28 (zs5 (m + 1) ++ entsV (es.drop (m + 1))) from HB.out)
      have hmI : (m : Int) ≤ 200 := by omega
      have hmn : (m : Int) < es.length := by omega
      have hcast : ((m + 1 : Nat) : Int) = (m : Int) + 1 := by omega
      rw [hcast] at q0 HQ0
      have HBB := Lib.hid hb
      clear hu hb hc2 hum
      go_wp2
      refine wp_region_held_drew (S := fun V => wr.grownBy V (some g)) (by kernel_rfl) (grown_drew (grown_refl _ _)) (fun hS => ?_)
      generalize wr.drew = V0 at hS HGD ⊢
      try dsimp only at hS
      refine wpAnyH_take (i := 0) (oi := ⟨some 21, _, _, _, _, _⟩) (v := (.slice (some ⟨g, 0, none⟩) es.length es.length)) rfl (by kernel_rfl) (by kernel_rfl) (by kernel_rfl) (fun _ _ _ h => h) (Or.inl ⟨by kernel_rfl, fun w' hSw => ?_⟩) hS ?_
      · go_simp
        all_goals first | rfl | (simp [*]; done)
      simp only [Act.put, List.setIfInBounds_toArray, List.set_cons_zero, List.set_cons_succ]
      refine wpAnyH_take (i := 1) (oi := ⟨some 22, _, _, _, _, _⟩) (v := (.pointer (some ⟨B', 0, none⟩))) rfl (by kernel_rfl) (by kernel_rfl) (by kernel_rfl) (fun _ _ _ h => h) (Or.inl ⟨by kernel_rfl, fun w' hSw => ?_⟩) hS ?_
      · go_simp
        all_goals first | rfl | (simp [*]; done)
      simp only [Act.put, List.setIfInBounds_toArray, List.set_cons_zero, List.set_cons_succ]
      refine wpAnyH_take (i := 2) (oi := ⟨some 23, _, _, _, _, _⟩) (v := (.pointer (some ⟨B', 0, none⟩))) rfl (by kernel_rfl) (by kernel_rfl) (by kernel_rfl) (fun _ _ _ h => h) (Or.inl ⟨by kernel_rfl, fun w' hSw => ?_⟩) hS ?_
      · go_simp
        all_goals first | rfl | (simp [*]; done)
      simp only [Act.put, List.setIfInBounds_toArray, List.set_cons_zero, List.set_cons_succ]
      refine wpAnyH_take (i := 3) (oi := ⟨some 24, _, _, _, _, _⟩) (v := (.pointer (some ⟨B', 0, none⟩))) rfl (by kernel_rfl) (by kernel_rfl) (by kernel_rfl) (fun _ _ _ h => h) (Or.inl ⟨by kernel_rfl, fun w' hSw => ?_⟩) hS ?_
      · go_simp
        all_goals first | rfl | (simp [*]; done)
      simp only [Act.put, List.setIfInBounds_toArray, List.set_cons_zero, List.set_cons_succ]
      refine wpAnyH_take (i := 4) (oi := ⟨some 25, _, _, _, _, _⟩) (v := (.pointer (some ⟨B', 0, none⟩))) rfl (by kernel_rfl) (by kernel_rfl) (by kernel_rfl) (fun _ _ _ h => h) (Or.inl ⟨by kernel_rfl, fun w' hSw => ?_⟩) hS ?_
      · go_simp
        all_goals first | rfl | (simp [*]; done)
      simp only [Act.put, List.setIfInBounds_toArray, List.set_cons_zero, List.set_cons_succ]
      refine wpAnyH_take (i := 5) (oi := ⟨some 26, _, _, _, _, _⟩) (v := (.int .i64 ((m : Int) + 1))) rfl (by kernel_rfl) (by kernel_rfl) (by kernel_rfl) (fun _ _ _ h => h) (Or.inl ⟨by kernel_rfl, fun w' hSw => ?_⟩) hS ?_
      · have kf0 := World.grownBy.cell hSw HQ0.out (by have := HBN.out; simp; omega)
        go_simp
        all_goals first | rfl | (simp [*]; done)
      simp only [Act.put, List.setIfInBounds_toArray, List.set_cons_zero, List.set_cons_succ]
      refine wpAnyH_take (i := 6) (oi := ⟨some 27, _, _, _, _, _⟩) (v := (.int .i64 (m : Int))) rfl (by kernel_rfl) (by kernel_rfl) (by kernel_rfl) (fun _ _ _ h => h) (Or.inl ⟨by kernel_rfl, fun w' hSw => ?_⟩) hS ?_
      · go_simp
        all_goals first | rfl | (simp [*]; done) | (rw [IntKind.wrap_i64]; omega)
      simp only [Act.put, List.setIfInBounds_toArray, List.set_cons_zero, List.set_cons_succ]
      refine wpAnyH_take (i := 7) (oi := ⟨some 28, _, _, _, _, _⟩) (v := (.pointer (some ⟨B', 0, none⟩))) rfl (by kernel_rfl) (by kernel_rfl) (by kernel_rfl) (fun _ _ _ h => h) (Or.inl ⟨by kernel_rfl, fun w' hSw => ?_⟩) hS ?_
      · go_simp
        all_goals first | rfl | (simp [*]; done)
      simp only [Act.put, List.setIfInBounds_toArray, List.set_cons_zero, List.set_cons_succ]
      refine wpAnyH_ready (rs := [8]) (by kernel_rfl) (by simp) ?_
      refine AllReadyH.cons (o := ⟨some 29, _, _, _, _, _⟩) rfl (fun K hK => ?_) AllReadyH.nil
      go_simp
      refine (HTE.out _ hS).mono ?_
      rintro e wa ⟨rfl, hga⟩
      go_simp
      have HGD' := Lib.hid (HGD.out.kept hga (by simp))
      clear HGD
      have HGD := HGD'
      clear HGD'
      have hS := grown_trans hS (grown_widen hga)
      refine hK.out _ _ hS (fun hS => ?_)
      clear hK hga
      refine wpAnyH_take (i := 9) (oi := ⟨some 30, _, _, _, _, _⟩) (v := (.pointer (some ⟨g, m * 5, none⟩))) rfl (by kernel_rfl) (by kernel_rfl) (by kernel_rfl) (fun _ _ _ h => h) (Or.inl ⟨by kernel_rfl, fun w' hSw => ?_⟩) hS ?_
      · go_simp
        all_goals first | rfl | (simp [*]; done)
      simp only [Act.put, List.setIfInBounds_toArray, List.set_cons_zero, List.set_cons_succ]
      refine wpAnyH_ready (rs := [10]) (by kernel_rfl) (by simp) ?_
      refine AllReadyH.cons (o := ⟨none, _, _, _, _, _⟩) rfl (fun K hK => ?_) AllReadyH.nil
      have e0 : wa.cell? ⟨g, m * 5, none⟩ = some (.int .i64 0) := HGD.out.cell (back_get m 0 _ (by decide))
      have f0 := HGD.out.frozen (m * 5)
      have e1 : wa.cell? ⟨g, m * 5 + 1, none⟩ = some (.string ⟨#[]⟩) := HGD.out.cell (back_get m 1 _ (by decide))
      have f1 := HGD.out.frozen (m * 5 + 1)
      have e2 : wa.cell? ⟨g, m * 5 + 2, none⟩ = some (.string ⟨#[]⟩) := HGD.out.cell (back_get m 2 _ (by decide))
      have f2 := HGD.out.frozen (m * 5 + 2)
      have e3 : wa.cell? ⟨g, m * 5 + 3, none⟩ = some (.string ⟨#[]⟩) := HGD.out.cell (back_get m 3 _ (by decide))
      have f3 := HGD.out.frozen (m * 5 + 3)
      have e4 : wa.cell? ⟨g, m * 5 + 4, none⟩ = some (.string ⟨#[]⟩) := HGD.out.cell (back_get m 4 _ (by decide))
      have f4 := HGD.out.frozen (m * 5 + 4)
      go_simp
      obtain ⟨ws, hws⟩ : ∃ x, ((((wa.setCell ⟨g, m * 5, none⟩ (.int .i64 sq)).setCell ⟨g, m * 5 + 1, none⟩ (.string ten)).setCell ⟨g, m * 5 + 2, none⟩ (.string wha)).setCell ⟨g, m * 5 + 3, none⟩ (.string det)).setCell ⟨g, m * 5 + 4, none⟩ (.string sm) = x := ⟨_, rfl⟩
      have hgs : wa.grownBy ws (some g) := by rw [← hws]; exact grown_set (grown_set (grown_set (grown_set (grown_set (grown_refl wa _) (m * 5) _) (m * 5 + 1) _) (m * 5 + 2) _) (m * 5 + 3) _) (m * 5 + 4) _
      have HBF := Lib.hid (show Blk ws g 28 (zs5 m ++ entsV (es.drop m)) from by
        have := ((((HGD.out.set (m * 5) (.int .i64 sq)).set (m * 5 + 1) (.string ten)).set (m * 5 + 2) (.string wha)).set (m * 5 + 3) (.string det)).set (m * 5 + 4) (.string sm)
        rw [back_set] at this
        rw [← hws, HDR.out]
        exact this)
      try rw [hws]
      have hS := grown_trans hS hgs
      clear hws hgs
      refine hK.out _ _ hS (fun hS => ?_)
      clear hK
      refine wpAnyH_done (by kernel_rfl) ?_ _
      have HSG := Lib.hid (grown_into HG.out hS HGE.out)
      have HCS := Lib.hid (show Chain ws es m B2 from Chain.keptG hS HC2.out (fun X t L hX ht e => by
        rw [e] at hX
        have h1 : wr.heap[g]? = some (.cells L.toArray t (0, 0)) := hX
        have h2 : wr.heap[g]? = some (.cells (zs5 (m + 1) ++ entsV (es.drop (m + 1))).toArray 28 (0, 0)) := HB.out
        rw [h2] at h1
        injection h1 with h3
        injection h3 with h4 h5 h6
        rw [ht] at h5
        exact absurd h5 (by decide)))
      have HQ := Lib.hid (HHD.out ws m B2 HCS.out (by omega))
      have r5 : ws.cell? ⟨B', 5, none⟩ = some (.pointer (some ⟨B2, 0, none⟩)) := (HBB.out.kept hS (by have := HBN.out; simp; omega)).cell rfl
      clear hS q5 e0 e1 e2 e3 e4 f0 f1 f2 f3 f4
      go_wp2
      go_roundw
      case rel => exact ⟨m, B2, by omega, rfl, HCS, HBF, HSG.out⟩
      case measure =>
        have h1 := HQ.out
        have h2 := HQ0.out
        simp [seqOf, ptrA, h1, h2, intOf]
end Go.Proofs.YtdelijobaebfnaaDoor
