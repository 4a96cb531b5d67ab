/- The program's check of a value: sorts of one value. -/
import Derived.Test.YtgmigloafcejdaaGreatDoorK3
namespace Go.Proofs.YtgmigloafcejdaaGreatDoor
open Go.RowKit


theorem kids_none {ks : List VT} (h : ks.length = 0) (l p : Nat) (hp : p < 16) : PartsK ks l ∧ p + 1 + countK ks ≤ 16 ∧ countK ks = 0 := by
  have : ks = [] := List.eq_nil_of_length_eq_zero h
  subst this
  exact ⟨by rw [PartsK]; trivial, by rw [countK]; omega, by rw [countK]⟩

set_option maxRecDepth 100000 in
set_option maxHeartbeats 2000000 in
theorem node_1 (w W : World) (bc l p : Nat) (hx : NCtx w W bc l p) (hl : l < 3) (hp : p < 16) (n : Int) (t : ByteArray) (ns : List ByteArray) (ks : List VT) (an ak : Option Addr) (cn ck : Nat) (ho : HasOnly 1 n t ns.length ks.length) :
    Calls Tryz.prog 67 #[.pointer (some ⟨bc, 0, none⟩), .agg #[.int .i64 1, .int .i64 n, .string t, .slice an ns.length cn, .slice ak ks.length ck]] W fun e w' => NodeR W w' w.heap.size bc l p (.node 1 n t ns ks) e := by
  have HGA := Lib.hid (show W.grownBy (W.alloc (Obj.cells #[Value.int .i64 1, .int .i64 n, .string t, .slice an ns.length cn, .slice ak ks.length ck] 27)) none from grown_alloc (grown_refl _ _) _)
  have HBA := Lib.hid (Blk.new W 27 [.int .i64 1, .int .i64 n, .string t, .slice an ns.length cn, .slice ak ks.length ck])
  have HEN := Lib.hid (enter_yes (W.alloc (Obj.cells #[Value.int .i64 1, .int .i64 n, .string t, .slice an ns.length cn, .slice ak ks.length ck] 27)) bc l p (Blk.alloc hx.cnt _) hl hp)
  have HX := Lib.hid hx
  have HO := Lib.hid ho
  have hbl : bc < W.heap.size := hx.cnt.lt
  clear hx ho
  go_enter_defers Tryz.func67, Tryz.ntmps67
  go_wp2_with fail
  refine HEN.out.mono ?_
  rintro e w1 ⟨rfl, hc1, hg1⟩
  have HB1 := Lib.hid (HBA.out.kept hg1 (by simp; omega))
  have HC1 := Lib.hid hc1
  have HG1 := Lib.hid (grown_trans (grown_widen HGA.out) hg1)
  have d0 : w1.cell? ⟨W.heap.size, 0, none⟩ = some (.int .i64 1) := HB1.out.cell rfl
  have d1 : w1.cell? ⟨W.heap.size, 1, none⟩ = some (.int .i64 n) := HB1.out.cell rfl
  have d2 : w1.cell? ⟨W.heap.size, 2, none⟩ = some (.string t) := HB1.out.cell rfl
  have d3 : w1.cell? ⟨W.heap.size, 3, none⟩ = some (.slice an ns.length cn) := HB1.out.cell rfl
  have d4 : w1.cell? ⟨W.heap.size, 4, none⟩ = some (.slice ak ks.length ck) := HB1.out.cell rfl
  have HCL := Lib.hid ((hasOnly_any w1 (HX.out.tab.kept HG1.out (fun q e => by cases e; have := HX.out.two; have := HX.out.le; omega)) 1 n t ns.length ks.length an ak cn ck).mono (R' := fun e w' => e = .returned (.bool true) ∧ w1.grownBy w' none) (fun e w' h => ⟨h.1.is_yes HO.out, h.2⟩))
  clear hc1 hg1 HEN
  go_wp2_with fail
  refine HCL.out.mono ?_
  rintro e w2 ⟨rfl, hg2⟩
  have HG2 := Lib.hid (grown_trans HG1.out (grown_widen hg2))
  have HC2 := Lib.hid (Blk.kept HC1.out hg2 (by simp))
  have HB2 := Lib.hid (HB1.out.kept hg2 (by simp))
  clear hg2 HCL d0 d1 d2 d3 d4
  have d0 : w2.cell? ⟨W.heap.size, 0, none⟩ = some (.int .i64 1) := HB2.out.cell rfl
  go_wp2
  refine node_door _ _ HC2.out (by omega) rfl rfl fun w4 hc4 hg4 => ?_
  have hk0 : ks.length = 0 := by have := HO.out.2.2.2.2; omega
  obtain ⟨k1, k2, k3⟩ := kids_none hk0 (l + 1 + 1) p hp
  have hn0 : n = 0 := by have := HO.out.2.1; omega
  have ht0 : t.size = 0 := by have := HO.out.2.2.1; omega
  have hs0 : ns.length = 0 := by have := HO.out.2.2.2.1; omega
  exact .fine (grown_trans HG2.out hg4) hl ⟨⟨fun _ => hs0, fun _ => ht0, .inl ⟨by decide, hn0, hk0⟩⟩, k1, k2⟩ (by rw [k3]; exact hc4) .null

set_option maxRecDepth 100000 in
set_option maxHeartbeats 2000000 in
theorem node_7 (w W : World) (bc l p : Nat) (hx : NCtx w W bc l p) (hl : l < 3) (hp : p < 16) (n : Int) (t : ByteArray) (ns : List ByteArray) (ks : List VT) (an ak : Option Addr) (cn ck : Nat) (ho : HasOnly 7 n t ns.length ks.length) :
    Calls Tryz.prog 67 #[.pointer (some ⟨bc, 0, none⟩), .agg #[.int .i64 7, .int .i64 n, .string t, .slice an ns.length cn, .slice ak ks.length ck]] W fun e w' => NodeR W w' w.heap.size bc l p (.node 7 n t ns ks) e := by
  have HGA := Lib.hid (show W.grownBy (W.alloc (Obj.cells #[Value.int .i64 7, .int .i64 n, .string t, .slice an ns.length cn, .slice ak ks.length ck] 27)) none from grown_alloc (grown_refl _ _) _)
  have HBA := Lib.hid (Blk.new W 27 [.int .i64 7, .int .i64 n, .string t, .slice an ns.length cn, .slice ak ks.length ck])
  have HEN := Lib.hid (enter_yes (W.alloc (Obj.cells #[Value.int .i64 7, .int .i64 n, .string t, .slice an ns.length cn, .slice ak ks.length ck] 27)) bc l p (Blk.alloc hx.cnt _) hl hp)
  have HX := Lib.hid hx
  have HO := Lib.hid ho
  have hbl : bc < W.heap.size := hx.cnt.lt
  clear hx ho
  go_enter_defers Tryz.func67, Tryz.ntmps67
  go_wp2_with fail
  refine HEN.out.mono ?_
  rintro e w1 ⟨rfl, hc1, hg1⟩
  have HB1 := Lib.hid (HBA.out.kept hg1 (by simp; omega))
  have HC1 := Lib.hid hc1
  have HG1 := Lib.hid (grown_trans (grown_widen HGA.out) hg1)
  have d0 : w1.cell? ⟨W.heap.size, 0, none⟩ = some (.int .i64 7) := HB1.out.cell rfl
  have d1 : w1.cell? ⟨W.heap.size, 1, none⟩ = some (.int .i64 n) := HB1.out.cell rfl
  have d2 : w1.cell? ⟨W.heap.size, 2, none⟩ = some (.string t) := HB1.out.cell rfl
  have d3 : w1.cell? ⟨W.heap.size, 3, none⟩ = some (.slice an ns.length cn) := HB1.out.cell rfl
  have d4 : w1.cell? ⟨W.heap.size, 4, none⟩ = some (.slice ak ks.length ck) := HB1.out.cell rfl
  have HCL := Lib.hid ((hasOnly_any w1 (HX.out.tab.kept HG1.out (fun q e => by cases e; have := HX.out.two; have := HX.out.le; omega)) 7 n t ns.length ks.length an ak cn ck).mono (R' := fun e w' => e = .returned (.bool true) ∧ w1.grownBy w' none) (fun e w' h => ⟨h.1.is_yes HO.out, h.2⟩))
  clear hc1 hg1 HEN
  go_wp2_with fail
  refine HCL.out.mono ?_
  rintro e w2 ⟨rfl, hg2⟩
  have HG2 := Lib.hid (grown_trans HG1.out (grown_widen hg2))
  have HC2 := Lib.hid (Blk.kept HC1.out hg2 (by simp))
  have HB2 := Lib.hid (HB1.out.kept hg2 (by simp))
  clear hg2 HCL d0 d1 d2 d3 d4
  have d0 : w2.cell? ⟨W.heap.size, 0, none⟩ = some (.int .i64 7) := HB2.out.cell rfl
  go_wp2
  refine node_door _ _ HC2.out (by omega) rfl rfl fun w4 hc4 hg4 => ?_
  have hk0 : ks.length = 0 := by have := HO.out.2.2.2.2; omega
  obtain ⟨k1, k2, k3⟩ := kids_none hk0 (l + 1 + 1) p hp
  have hn0 : n = 0 := by have := HO.out.2.1; omega
  have ht0 : t.size = 0 := by have := HO.out.2.2.1; omega
  have hs0 : ns.length = 0 := by have := HO.out.2.2.2.1; omega
  exact .fine (grown_trans HG2.out hg4) hl ⟨⟨fun _ => hs0, fun _ => ht0, .inl ⟨by decide, hn0, hk0⟩⟩, k1, k2⟩ (by rw [k3]; exact hc4) .unknown

end Go.Proofs.YtgmigloafcejdaaGreatDoor
