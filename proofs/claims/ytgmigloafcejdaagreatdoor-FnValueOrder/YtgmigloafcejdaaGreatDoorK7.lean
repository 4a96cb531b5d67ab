/- The program's check of a value: texts and bools. -/
import Derived.Test.YtgmigloafcejdaaGreatDoorK6
namespace Go.Proofs.YtgmigloafcejdaaGreatDoor
open Go.RowKit


set_option maxRecDepth 100000 in
set_option maxHeartbeats 2000000 in
theorem node_4y (w W : World) (bc l p : Nat) (hx : NCtx w W bc l p) (hl : l < 3) (hp : p < 16) (n : Int) (t : ByteArray) (ns : List ByteArray) (ks : List VT) (an ak : Option Addr) (cn ck : Nat) (ho : HasOnly 4 n t ns.length ks.length) (hts : t.size ≤ 1048576) (hr : TextOk t) :
    Calls Tryz.prog 67 #[.pointer (some ⟨bc, 0, none⟩), .agg #[.int .i64 4, .int .i64 n, .string t, .slice an ns.length cn, .slice ak ks.length ck]] W fun e w' => NodeR W w' w.heap.size bc l p (.node 4 n t ns ks) e := by
  have HGA := Lib.hid (show W.grownBy (W.alloc (Obj.cells #[Value.int .i64 4, .int .i64 n, .string t, .slice an ns.length cn, .slice ak ks.length ck] 27)) none from grown_alloc (grown_refl _ _) _)
  have HBA := Lib.hid (Blk.new W 27 [.int .i64 4, .int .i64 n, .string t, .slice an ns.length cn, .slice ak ks.length ck])
  have HEN := Lib.hid (enter_yes (W.alloc (Obj.cells #[Value.int .i64 4, .int .i64 n, .string t, .slice an ns.length cn, .slice ak ks.length ck] 27)) bc l p (Blk.alloc hx.cnt _) hl hp)
  have HX := Lib.hid hx
  have HO := Lib.hid ho
  have hbl : bc < W.heap.size := hx.cnt.lt
  have HRR := Lib.hid hr
  clear hx ho hr
  go_enter_defers Tryz.func67, Tryz.ntmps67
  go_wp2_with fail
  refine HEN.out.mono ?_
  rintro e w1 ⟨rfl, hc1, hg1⟩
  have HB1 := Lib.hid (HBA.out.kept hg1 (by simp; omega))
  have HC1 := Lib.hid hc1
  have HG1 := Lib.hid (grown_trans (grown_widen HGA.out) hg1)
  have d0 : w1.cell? ⟨W.heap.size, 0, none⟩ = some (.int .i64 4) := HB1.out.cell rfl
  have d1 : w1.cell? ⟨W.heap.size, 1, none⟩ = some (.int .i64 n) := HB1.out.cell rfl
  have d2 : w1.cell? ⟨W.heap.size, 2, none⟩ = some (.string t) := HB1.out.cell rfl
  have d3 : w1.cell? ⟨W.heap.size, 3, none⟩ = some (.slice an ns.length cn) := HB1.out.cell rfl
  have d4 : w1.cell? ⟨W.heap.size, 4, none⟩ = some (.slice ak ks.length ck) := HB1.out.cell rfl
  have HCL := Lib.hid ((hasOnly_any w1 (HX.out.tab.kept HG1.out (fun q e => by cases e; have := HX.out.two; have := HX.out.le; omega)) 4 n t ns.length ks.length an ak cn ck).mono (R' := fun e w' => e = .returned (.bool true) ∧ w1.grownBy w' none) (fun e w' h => ⟨h.1.is_yes HO.out, h.2⟩))
  clear hc1 hg1 HEN
  go_wp2_with fail
  refine HCL.out.mono ?_
  rintro e w2 ⟨rfl, hg2⟩
  have HG2 := Lib.hid (grown_trans HG1.out (grown_widen hg2))
  have HC2 := Lib.hid (Blk.kept HC1.out hg2 (by simp))
  have HB2 := Lib.hid (HB1.out.kept hg2 (by simp))
  clear hg2 HCL d0 d1 d2 d3 d4
  have d0 : w2.cell? ⟨W.heap.size, 0, none⟩ = some (.int .i64 4) := HB2.out.cell rfl
  go_wp2
  have HC5 := Lib.hid (fun (V : World) (hV : V.cell? ⟨W.heap.size, 2, none⟩ = some (.string t) ∧ W.grownBy V (some bc) ∧ Cnt V bc (l + 1) (p + 1)) => (itextOk_any V t hts).mono (R' := fun e w' => e = .returned (.bool true) ∧ (w'.cell? ⟨W.heap.size, 2, none⟩ = some (.string t) ∧ W.grownBy w' (some bc) ∧ Cnt w' bc (l + 1) (p + 1))) (fun e w' h => ⟨h.1.is_yes HRR.out, h.2.cell hV.1 (by simp), grown_trans hV.2.1 (grown_widen h.2), Blk.kept hV.2.2 h.2 (by simp)⟩))
  have HC6 := Lib.hid (fun (V : World) (hV : V.cell? ⟨W.heap.size, 2, none⟩ = some (.string t) ∧ W.grownBy V (some bc) ∧ Cnt V bc (l + 1) (p + 1)) => unless_yes V bc)
  clear d0
  go_region_held3 (fun w' => w'.cell? ⟨W.heap.size, 2, none⟩ = some (.string t) ∧ W.grownBy w' (some bc) ∧ Cnt w' bc (l + 1) (p + 1))
    (first | assumption | exact ⟨HB2.out.cell rfl, grown_drew HG2.out, Blk.drew HC2.out⟩)
    (first
      | (go_at_call 98; (with_reducible refine (HC5.out _ (by assumption)).mono ?_); rintro e w3 ⟨rfl, hS3⟩)
      | (go_at_call 80; (with_reducible refine (HC6.out _ (by assumption)).mono ?_); rintro e w4 ⟨rfl, hw4⟩; have hw4 := hw4.symm; subst hw4))
  all_goals
    have HGX := Lib.hid hS3.2.1
    have HCX := Lib.hid hS3.2.2
    clear hS3 HC5 HC6
    go_wp2
    refine node_door _ _ HCX.out (by omega) rfl rfl fun w4 hc4 hg4 => ?_
    have hk0 : ks.length = 0 := by have := HO.out.2.2.2.2; omega
    obtain ⟨k1, k2, k3⟩ := kids_none hk0 (l + 1 + 1) p hp
    have hs0 : ns.length = 0 := by have := HO.out.2.2.2.1; omega
    exact .fine (grown_trans HGX.out hg4) hl ⟨⟨fun _ => hs0, fun h => absurd rfl h, .inr (.inr (.inr (.inl ⟨rfl, by have := HO.out.2.1; omega, hk0, HRR.out⟩)))⟩, k1, k2⟩ (by rw [k3]; exact hc4) .text

set_option maxRecDepth 100000 in
set_option maxHeartbeats 2000000 in
theorem node_4n (w W : World) (bc l p : Nat) (hx : NCtx w W bc l p) (hl : l < 3) (hp : p < 16) (n : Int) (t : ByteArray) (ns : List ByteArray) (ks : List VT) (an ak : Option Addr) (cn ck : Nat) (ho : HasOnly 4 n t ns.length ks.length) (hts : t.size ≤ 1048576) (hr : ¬ TextOk t) :
    Calls Tryz.prog 67 #[.pointer (some ⟨bc, 0, none⟩), .agg #[.int .i64 4, .int .i64 n, .string t, .slice an ns.length cn, .slice ak ks.length ck]] W fun e w' => NodeR W w' w.heap.size bc l p (.node 4 n t ns ks) e := by
  have HGA := Lib.hid (show W.grownBy (W.alloc (Obj.cells #[Value.int .i64 4, .int .i64 n, .string t, .slice an ns.length cn, .slice ak ks.length ck] 27)) none from grown_alloc (grown_refl _ _) _)
  have HBA := Lib.hid (Blk.new W 27 [.int .i64 4, .int .i64 n, .string t, .slice an ns.length cn, .slice ak ks.length ck])
  have HEN := Lib.hid (enter_yes (W.alloc (Obj.cells #[Value.int .i64 4, .int .i64 n, .string t, .slice an ns.length cn, .slice ak ks.length ck] 27)) bc l p (Blk.alloc hx.cnt _) hl hp)
  have HX := Lib.hid hx
  have HO := Lib.hid ho
  have hbl : bc < W.heap.size := hx.cnt.lt
  have HRR := Lib.hid hr
  clear hx ho hr
  go_enter_defers Tryz.func67, Tryz.ntmps67
  go_wp2_with fail
  refine HEN.out.mono ?_
  rintro e w1 ⟨rfl, hc1, hg1⟩
  have HB1 := Lib.hid (HBA.out.kept hg1 (by simp; omega))
  have HC1 := Lib.hid hc1
  have HG1 := Lib.hid (grown_trans (grown_widen HGA.out) hg1)
  have d0 : w1.cell? ⟨W.heap.size, 0, none⟩ = some (.int .i64 4) := HB1.out.cell rfl
  have d1 : w1.cell? ⟨W.heap.size, 1, none⟩ = some (.int .i64 n) := HB1.out.cell rfl
  have d2 : w1.cell? ⟨W.heap.size, 2, none⟩ = some (.string t) := HB1.out.cell rfl
  have d3 : w1.cell? ⟨W.heap.size, 3, none⟩ = some (.slice an ns.length cn) := HB1.out.cell rfl
  have d4 : w1.cell? ⟨W.heap.size, 4, none⟩ = some (.slice ak ks.length ck) := HB1.out.cell rfl
  have HCL := Lib.hid ((hasOnly_any w1 (HX.out.tab.kept HG1.out (fun q e => by cases e; have := HX.out.two; have := HX.out.le; omega)) 4 n t ns.length ks.length an ak cn ck).mono (R' := fun e w' => e = .returned (.bool true) ∧ w1.grownBy w' none) (fun e w' h => ⟨h.1.is_yes HO.out, h.2⟩))
  clear hc1 hg1 HEN
  go_wp2_with fail
  refine HCL.out.mono ?_
  rintro e w2 ⟨rfl, hg2⟩
  have HG2 := Lib.hid (grown_trans HG1.out (grown_widen hg2))
  have HC2 := Lib.hid (Blk.kept HC1.out hg2 (by simp))
  have HB2 := Lib.hid (HB1.out.kept hg2 (by simp))
  clear hg2 HCL d0 d1 d2 d3 d4
  have d0 : w2.cell? ⟨W.heap.size, 0, none⟩ = some (.int .i64 4) := HB2.out.cell rfl
  go_wp2
  have HC5 := Lib.hid (fun (V : World) (hV : V.cell? ⟨W.heap.size, 2, none⟩ = some (.string t) ∧ W.grownBy V (some bc) ∧ Cnt V bc (l + 1) (p + 1)) => (itextOk_any V t hts).mono (R' := fun e w' => e = .returned (.bool false) ∧ (w'.cell? ⟨W.heap.size, 2, none⟩ = some (.string t) ∧ W.grownBy w' (some bc) ∧ Cnt w' bc (l + 1) (p + 1))) (fun e w' h => ⟨h.1.is_no HRR.out, h.2.cell hV.1 (by simp), grown_trans hV.2.1 (grown_widen h.2), Blk.kept hV.2.2 h.2 (by simp)⟩))
  have HC6 := Lib.hid (fun (V : World) (hV : V.cell? ⟨W.heap.size, 2, none⟩ = some (.string t) ∧ W.grownBy V (some bc) ∧ Cnt V bc (l + 1) (p + 1)) => unless_no V bc (l + 1) (p + 1) hV.2.2)
  clear d0
  go_region_held3 (fun w' => w'.cell? ⟨W.heap.size, 2, none⟩ = some (.string t) ∧ W.grownBy w' (some bc) ∧ Cnt w' bc (l + 1) (p + 1))
    (first | assumption | exact ⟨HB2.out.cell rfl, grown_drew HG2.out, Blk.drew HC2.out⟩)
    (first
      | (go_at_call 98; (with_reducible refine (HC5.out _ (by assumption)).mono ?_); rintro e w3 ⟨rfl, hS3⟩)
      | (go_at_call 80; (with_reducible refine (HC6.out _ (by assumption)).mono ?_); rintro e w4 ⟨rfl, hw4⟩; have hw4 := hw4.symm; subst hw4))
  all_goals
    have HGX := Lib.hid hS3.2.1
    have HCX := Lib.hid hS3.2.2
    clear hS3 HC5 HC6
    go_wp2
    refine node_door _ _ HCX.out (by omega) rfl rfl fun w4 hc4 hg4 => ?_
    exact .bad (grown_trans HGX.out hg4) hl ⟨_, rfl⟩ (fun h => HRR.out (by rcases h.1.2.2 with h | h | h | h | h | h <;> first | (exact absurd h.1 (by decide)) | exact h.2.2.2)) l (p + 1) (Nat.le_refl _) (by omega) (by omega) hc4

set_option maxRecDepth 100000 in
set_option maxHeartbeats 2000000 in
theorem node_2a (w W : World) (bc l p : Nat) (hx : NCtx w W bc l p) (hl : l < 3) (hp : p < 16) (n : Int) (t : ByteArray) (ns : List ByteArray) (ks : List VT) (an ak : Option Addr) (cn ck : Nat) (ho : HasOnly 2 n t ns.length ks.length) (hr : n = 0) :
    Calls Tryz.prog 67 #[.pointer (some ⟨bc, 0, none⟩), .agg #[.int .i64 2, .int .i64 n, .string t, .slice an ns.length cn, .slice ak ks.length ck]] W fun e w' => NodeR W w' w.heap.size bc l p (.node 2 n t ns ks) e := by
  have HGA := Lib.hid (show W.grownBy (W.alloc (Obj.cells #[Value.int .i64 2, .int .i64 n, .string t, .slice an ns.length cn, .slice ak ks.length ck] 27)) none from grown_alloc (grown_refl _ _) _)
  have HBA := Lib.hid (Blk.new W 27 [.int .i64 2, .int .i64 n, .string t, .slice an ns.length cn, .slice ak ks.length ck])
  have HEN := Lib.hid (enter_yes (W.alloc (Obj.cells #[Value.int .i64 2, .int .i64 n, .string t, .slice an ns.length cn, .slice ak ks.length ck] 27)) bc l p (Blk.alloc hx.cnt _) hl hp)
  have HX := Lib.hid hx
  have HO := Lib.hid ho
  have hbl : bc < W.heap.size := hx.cnt.lt
  have HRR := Lib.hid hr
  have z0 : (n == 0) = true := by rw [beq_iff_eq]; omega
  have z1 : (n == 1) = false := by rw [beq_eq_false_iff_ne]; omega
  clear hx ho hr
  go_enter_defers Tryz.func67, Tryz.ntmps67
  go_wp2_with fail
  refine HEN.out.mono ?_
  rintro e w1 ⟨rfl, hc1, hg1⟩
  have HB1 := Lib.hid (HBA.out.kept hg1 (by simp; omega))
  have HC1 := Lib.hid hc1
  have HG1 := Lib.hid (grown_trans (grown_widen HGA.out) hg1)
  have d0 : w1.cell? ⟨W.heap.size, 0, none⟩ = some (.int .i64 2) := HB1.out.cell rfl
  have d1 : w1.cell? ⟨W.heap.size, 1, none⟩ = some (.int .i64 n) := HB1.out.cell rfl
  have d2 : w1.cell? ⟨W.heap.size, 2, none⟩ = some (.string t) := HB1.out.cell rfl
  have d3 : w1.cell? ⟨W.heap.size, 3, none⟩ = some (.slice an ns.length cn) := HB1.out.cell rfl
  have d4 : w1.cell? ⟨W.heap.size, 4, none⟩ = some (.slice ak ks.length ck) := HB1.out.cell rfl
  have HCL := Lib.hid ((hasOnly_any w1 (HX.out.tab.kept HG1.out (fun q e => by cases e; have := HX.out.two; have := HX.out.le; omega)) 2 n t ns.length ks.length an ak cn ck).mono (R' := fun e w' => e = .returned (.bool true) ∧ w1.grownBy w' none) (fun e w' h => ⟨h.1.is_yes HO.out, h.2⟩))
  clear hc1 hg1 HEN
  go_wp2_with fail
  refine HCL.out.mono ?_
  rintro e w2 ⟨rfl, hg2⟩
  have HG2 := Lib.hid (grown_trans HG1.out (grown_widen hg2))
  have HC2 := Lib.hid (Blk.kept HC1.out hg2 (by simp))
  have HB2 := Lib.hid (HB1.out.kept hg2 (by simp))
  clear hg2 HCL d0 d1 d2 d3 d4
  have d0 : w2.cell? ⟨W.heap.size, 0, none⟩ = some (.int .i64 2) := HB2.out.cell rfl
  go_wp2
  refine wp_still (by kernel_rfl) (by kernel_rfl) (fun wx => W.grownBy wx (some bc) ∧ Cnt wx bc (l + 1) (p + 1) ∧ Blk wx W.heap.size 27 [.int .i64 2, .int .i64 n, .string t, .slice an ns.length cn, .slice ak ks.length ck]) ⟨grown_drew HG2.out, Blk.drew HC2.out, HB2.out.drew⟩ ?_
  rintro wx ⟨hgx, hcx, hbx⟩
  have HGX := Lib.hid hgx
  have HCX := Lib.hid hcx
  have q1 : wx.cell? ⟨W.heap.size, 1, none⟩ = some (.int .i64 n) := hbx.cell rfl
  have q2 : wx.cell? ⟨W.heap.size, 2, none⟩ = some (.string t) := hbx.cell rfl
  have HC6 := Lib.hid (unless_yes wx bc)
  clear hgx hcx hbx d0
  iterate 15 ((with_reducible refine wpStill_step ?_); intro K hK; replace hK := Lib.hid hK; go_simp; (with_reducible refine hK.out _ ?_); clear hK K)
  ((with_reducible refine wpStill_step ?_); intro K hK; replace hK := Lib.hid hK; go_simp; refine ⟨_, HC6.out, ?_⟩; (with_reducible refine hK.out _ ?_); clear hK K)
  iterate 2 ((with_reducible refine wpStill_step ?_); intro K hK; replace hK := Lib.hid hK; go_simp; (with_reducible refine hK.out _ ?_); clear hK K)
  refine wpStill_nil ?_
  clear q1 q2 HC6
  go_wp2
  refine node_door _ _ HCX.out (by omega) rfl rfl fun w4 hc4 hg4 => ?_
  have hk0 : ks.length = 0 := by have := HO.out.2.2.2.2; omega
  obtain ⟨k1, k2, k3⟩ := kids_none hk0 (l + 1 + 1) p hp
  have hs0 : ns.length = 0 := by have := HO.out.2.2.2.1; omega
  exact .fine (grown_trans HGX.out hg4) hl ⟨⟨fun _ => hs0, fun _ => by have := HO.out.2.2.1; omega, .inr (.inl ⟨rfl, ⟨by have := HRR.out; omega, by have := HRR.out; omega⟩, hk0⟩)⟩, k1, k2⟩ (by rw [k3]; exact hc4) (by have hb := NIn.bool (w := w4) (A := fun b => b < w.heap.size ∨ W.heap.size ≤ b) (n := n) (t := t) (ns := ns) (ks := ks); rw [z1] at hb; exact hb)

set_option maxRecDepth 100000 in
set_option maxHeartbeats 2000000 in
theorem node_2b (w W : World) (bc l p : Nat) (hx : NCtx w W bc l p) (hl : l < 3) (hp : p < 16) (n : Int) (t : ByteArray) (ns : List ByteArray) (ks : List VT) (an ak : Option Addr) (cn ck : Nat) (ho : HasOnly 2 n t ns.length ks.length) (hr : n = 1) :
    Calls Tryz.prog 67 #[.pointer (some ⟨bc, 0, none⟩), .agg #[.int .i64 2, .int .i64 n, .string t, .slice an ns.length cn, .slice ak ks.length ck]] W fun e w' => NodeR W w' w.heap.size bc l p (.node 2 n t ns ks) e := by
  have HGA := Lib.hid (show W.grownBy (W.alloc (Obj.cells #[Value.int .i64 2, .int .i64 n, .string t, .slice an ns.length cn, .slice ak ks.length ck] 27)) none from grown_alloc (grown_refl _ _) _)
  have HBA := Lib.hid (Blk.new W 27 [.int .i64 2, .int .i64 n, .string t, .slice an ns.length cn, .slice ak ks.length ck])
  have HEN := Lib.hid (enter_yes (W.alloc (Obj.cells #[Value.int .i64 2, .int .i64 n, .string t, .slice an ns.length cn, .slice ak ks.length ck] 27)) bc l p (Blk.alloc hx.cnt _) hl hp)
  have HX := Lib.hid hx
  have HO := Lib.hid ho
  have hbl : bc < W.heap.size := hx.cnt.lt
  have HRR := Lib.hid hr
  have z0 : (n == 0) = false := by rw [beq_eq_false_iff_ne]; omega
  have z1 : (n == 1) = true := by rw [beq_iff_eq]; omega
  clear hx ho hr
  go_enter_defers Tryz.func67, Tryz.ntmps67
  go_wp2_with fail
  refine HEN.out.mono ?_
  rintro e w1 ⟨rfl, hc1, hg1⟩
  have HB1 := Lib.hid (HBA.out.kept hg1 (by simp; omega))
  have HC1 := Lib.hid hc1
  have HG1 := Lib.hid (grown_trans (grown_widen HGA.out) hg1)
  have d0 : w1.cell? ⟨W.heap.size, 0, none⟩ = some (.int .i64 2) := HB1.out.cell rfl
  have d1 : w1.cell? ⟨W.heap.size, 1, none⟩ = some (.int .i64 n) := HB1.out.cell rfl
  have d2 : w1.cell? ⟨W.heap.size, 2, none⟩ = some (.string t) := HB1.out.cell rfl
  have d3 : w1.cell? ⟨W.heap.size, 3, none⟩ = some (.slice an ns.length cn) := HB1.out.cell rfl
  have d4 : w1.cell? ⟨W.heap.size, 4, none⟩ = some (.slice ak ks.length ck) := HB1.out.cell rfl
  have HCL := Lib.hid ((hasOnly_any w1 (HX.out.tab.kept HG1.out (fun q e => by cases e; have := HX.out.two; have := HX.out.le; omega)) 2 n t ns.length ks.length an ak cn ck).mono (R' := fun e w' => e = .returned (.bool true) ∧ w1.grownBy w' none) (fun e w' h => ⟨h.1.is_yes HO.out, h.2⟩))
  clear hc1 hg1 HEN
  go_wp2_with fail
  refine HCL.out.mono ?_
  rintro e w2 ⟨rfl, hg2⟩
  have HG2 := Lib.hid (grown_trans HG1.out (grown_widen hg2))
  have HC2 := Lib.hid (Blk.kept HC1.out hg2 (by simp))
  have HB2 := Lib.hid (HB1.out.kept hg2 (by simp))
  clear hg2 HCL d0 d1 d2 d3 d4
  have d0 : w2.cell? ⟨W.heap.size, 0, none⟩ = some (.int .i64 2) := HB2.out.cell rfl
  go_wp2
  refine wp_still (by kernel_rfl) (by kernel_rfl) (fun wx => W.grownBy wx (some bc) ∧ Cnt wx bc (l + 1) (p + 1) ∧ Blk wx W.heap.size 27 [.int .i64 2, .int .i64 n, .string t, .slice an ns.length cn, .slice ak ks.length ck]) ⟨grown_drew HG2.out, Blk.drew HC2.out, HB2.out.drew⟩ ?_
  rintro wx ⟨hgx, hcx, hbx⟩
  have HGX := Lib.hid hgx
  have HCX := Lib.hid hcx
  have q1 : wx.cell? ⟨W.heap.size, 1, none⟩ = some (.int .i64 n) := hbx.cell rfl
  have q2 : wx.cell? ⟨W.heap.size, 2, none⟩ = some (.string t) := hbx.cell rfl
  have HC6 := Lib.hid (unless_yes wx bc)
  clear hgx hcx hbx d0
  iterate 15 ((with_reducible refine wpStill_step ?_); intro K hK; replace hK := Lib.hid hK; go_simp; (with_reducible refine hK.out _ ?_); clear hK K)
  ((with_reducible refine wpStill_step ?_); intro K hK; replace hK := Lib.hid hK; go_simp; refine ⟨_, HC6.out, ?_⟩; (with_reducible refine hK.out _ ?_); clear hK K)
  iterate 2 ((with_reducible refine wpStill_step ?_); intro K hK; replace hK := Lib.hid hK; go_simp; (with_reducible refine hK.out _ ?_); clear hK K)
  refine wpStill_nil ?_
  clear q1 q2 HC6
  go_wp2
  refine node_door _ _ HCX.out (by omega) rfl rfl fun w4 hc4 hg4 => ?_
  have hk0 : ks.length = 0 := by have := HO.out.2.2.2.2; omega
  obtain ⟨k1, k2, k3⟩ := kids_none hk0 (l + 1 + 1) p hp
  have hs0 : ns.length = 0 := by have := HO.out.2.2.2.1; omega
  exact .fine (grown_trans HGX.out hg4) hl ⟨⟨fun _ => hs0, fun _ => by have := HO.out.2.2.1; omega, .inr (.inl ⟨rfl, ⟨by have := HRR.out; omega, by have := HRR.out; omega⟩, hk0⟩)⟩, k1, k2⟩ (by rw [k3]; exact hc4) (by have hb := NIn.bool (w := w4) (A := fun b => b < w.heap.size ∨ W.heap.size ≤ b) (n := n) (t := t) (ns := ns) (ks := ks); rw [z1] at hb; exact hb)

set_option maxRecDepth 100000 in
set_option maxHeartbeats 2000000 in
theorem node_2n (w W : World) (bc l p : Nat) (hx : NCtx w W bc l p) (hl : l < 3) (hp : p < 16) (n : Int) (t : ByteArray) (ns : List ByteArray) (ks : List VT) (an ak : Option Addr) (cn ck : Nat) (ho : HasOnly 2 n t ns.length ks.length) (hr : ¬ (n = 0 ∨ n = 1)) :
    Calls Tryz.prog 67 #[.pointer (some ⟨bc, 0, none⟩), .agg #[.int .i64 2, .int .i64 n, .string t, .slice an ns.length cn, .slice ak ks.length ck]] W fun e w' => NodeR W w' w.heap.size bc l p (.node 2 n t ns ks) e := by
  have HGA := Lib.hid (show W.grownBy (W.alloc (Obj.cells #[Value.int .i64 2, .int .i64 n, .string t, .slice an ns.length cn, .slice ak ks.length ck] 27)) none from grown_alloc (grown_refl _ _) _)
  have HBA := Lib.hid (Blk.new W 27 [.int .i64 2, .int .i64 n, .string t, .slice an ns.length cn, .slice ak ks.length ck])
  have HEN := Lib.hid (enter_yes (W.alloc (Obj.cells #[Value.int .i64 2, .int .i64 n, .string t, .slice an ns.length cn, .slice ak ks.length ck] 27)) bc l p (Blk.alloc hx.cnt _) hl hp)
  have HX := Lib.hid hx
  have HO := Lib.hid ho
  have hbl : bc < W.heap.size := hx.cnt.lt
  have HRR := Lib.hid hr
  have z0 : (n == 0) = false := by rw [beq_eq_false_iff_ne]; omega
  have z1 : (n == 1) = false := by rw [beq_eq_false_iff_ne]; omega
  clear hx ho hr
  go_enter_defers Tryz.func67, Tryz.ntmps67
  go_wp2_with fail
  refine HEN.out.mono ?_
  rintro e w1 ⟨rfl, hc1, hg1⟩
  have HB1 := Lib.hid (HBA.out.kept hg1 (by simp; omega))
  have HC1 := Lib.hid hc1
  have HG1 := Lib.hid (grown_trans (grown_widen HGA.out) hg1)
  have d0 : w1.cell? ⟨W.heap.size, 0, none⟩ = some (.int .i64 2) := HB1.out.cell rfl
  have d1 : w1.cell? ⟨W.heap.size, 1, none⟩ = some (.int .i64 n) := HB1.out.cell rfl
  have d2 : w1.cell? ⟨W.heap.size, 2, none⟩ = some (.string t) := HB1.out.cell rfl
  have d3 : w1.cell? ⟨W.heap.size, 3, none⟩ = some (.slice an ns.length cn) := HB1.out.cell rfl
  have d4 : w1.cell? ⟨W.heap.size, 4, none⟩ = some (.slice ak ks.length ck) := HB1.out.cell rfl
  have HCL := Lib.hid ((hasOnly_any w1 (HX.out.tab.kept HG1.out (fun q e => by cases e; have := HX.out.two; have := HX.out.le; omega)) 2 n t ns.length ks.length an ak cn ck).mono (R' := fun e w' => e = .returned (.bool true) ∧ w1.grownBy w' none) (fun e w' h => ⟨h.1.is_yes HO.out, h.2⟩))
  clear hc1 hg1 HEN
  go_wp2_with fail
  refine HCL.out.mono ?_
  rintro e w2 ⟨rfl, hg2⟩
  have HG2 := Lib.hid (grown_trans HG1.out (grown_widen hg2))
  have HC2 := Lib.hid (Blk.kept HC1.out hg2 (by simp))
  have HB2 := Lib.hid (HB1.out.kept hg2 (by simp))
  clear hg2 HCL d0 d1 d2 d3 d4
  have d0 : w2.cell? ⟨W.heap.size, 0, none⟩ = some (.int .i64 2) := HB2.out.cell rfl
  go_wp2
  refine wp_still (by kernel_rfl) (by kernel_rfl) (fun wx => W.grownBy wx (some bc) ∧ Cnt wx bc (l + 1) (p + 1) ∧ Blk wx W.heap.size 27 [.int .i64 2, .int .i64 n, .string t, .slice an ns.length cn, .slice ak ks.length ck]) ⟨grown_drew HG2.out, Blk.drew HC2.out, HB2.out.drew⟩ ?_
  rintro wx ⟨hgx, hcx, hbx⟩
  have HGX := Lib.hid hgx
  have HCX := Lib.hid hcx
  have q1 : wx.cell? ⟨W.heap.size, 1, none⟩ = some (.int .i64 n) := hbx.cell rfl
  have q2 : wx.cell? ⟨W.heap.size, 2, none⟩ = some (.string t) := hbx.cell rfl
  have HC6 := Lib.hid (unless_no wx bc (l + 1) (p + 1) hcx)
  clear hgx hcx hbx d0
  iterate 15 ((with_reducible refine wpStill_step ?_); intro K hK; replace hK := Lib.hid hK; go_simp; (with_reducible refine hK.out _ ?_); clear hK K)
  ((with_reducible refine wpStill_step ?_); intro K hK; replace hK := Lib.hid hK; go_simp; refine ⟨_, HC6.out, ?_⟩; (with_reducible refine hK.out _ ?_); clear hK K)
  iterate 2 ((with_reducible refine wpStill_step ?_); intro K hK; replace hK := Lib.hid hK; go_simp; (with_reducible refine hK.out _ ?_); clear hK K)
  refine wpStill_nil ?_
  clear q1 q2 HC6
  go_wp2
  refine node_door _ _ HCX.out (by omega) rfl rfl fun w4 hc4 hg4 => ?_
  exact .bad (grown_trans HGX.out hg4) hl ⟨_, rfl⟩ (fun h => HRR.out (by rcases h.1.2.2 with h | h | h | h | h | h <;> first | (exact absurd h.1 (by decide)) | (have h1 := h.2.1.1; have h2 := h.2.1.2; omega))) l (p + 1) (Nat.le_refl _) (by omega) (by omega) hc4

end Go.Proofs.YtgmigloafcejdaaGreatDoor
