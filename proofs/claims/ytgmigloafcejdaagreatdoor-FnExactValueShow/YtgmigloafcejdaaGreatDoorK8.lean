/- The program's check of a value: lists and objects. -/
import Derived.Test.YtgmigloafcejdaaGreatDoorK7
namespace Go.Proofs.YtgmigloafcejdaaGreatDoor
open Go.RowKit


set_option maxRecDepth 100000 in
set_option maxHeartbeats 2000000 in
theorem node_5 (w W : World) (bc l p : Nat) (hx : NCtx w W bc l p) (hl : l < 3) (hp : p < 16) (n : Int) (t : ByteArray) (ns : List ByteArray) (ks : List VT) (an ak : Option Addr) (cn ck : Nat) (ho : HasOnly 5 n t ns.length ks.length) (hnd : ∀ W0 : World, w.grownBy W0 none → ∀ bc L P : Nat, w.heap.size ≤ bc → Cnt W0 bc L P → L ≤ 3 → P ≤ 16 → Tab W0 → 2 ≤ bc → Calls Tryz.prog 99 #[.pointer (some ⟨bc, 0, none⟩), .slice ak ks.length ck] W0 fun e w' => NodesR W0 w' w.heap.size bc L P ks e) :
    Calls Tryz.prog 67 #[.pointer (some ⟨bc, 0, none⟩), .agg #[.int .i64 5, .int .i64 n, .string t, .slice an ns.length cn, .slice ak ks.length ck]] W fun e w' => NodeR W w' w.heap.size bc l p (.node 5 n t ns ks) e := by
  have HGA := Lib.hid (show W.grownBy (W.alloc (Obj.cells #[Value.int .i64 5, .int .i64 n, .string t, .slice an ns.length cn, .slice ak ks.length ck] 27)) none from grown_alloc (grown_refl _ _) _)
  have HBA := Lib.hid (Blk.new W 27 [.int .i64 5, .int .i64 n, .string t, .slice an ns.length cn, .slice ak ks.length ck])
  have HEN := Lib.hid (enter_yes (W.alloc (Obj.cells #[Value.int .i64 5, .int .i64 n, .string t, .slice an ns.length cn, .slice ak ks.length ck] 27)) bc l p (Blk.alloc hx.cnt _) hl hp)
  have HX := Lib.hid hx
  have HO := Lib.hid ho
  have hbl : bc < W.heap.size := hx.cnt.lt
  have HND := Lib.hid hnd
  clear hx ho hnd
  go_enter_defers Tryz.func67, Tryz.ntmps67
  go_wp2_with fail
  refine HEN.out.mono ?_
  rintro e w1 ⟨rfl, hc1, hg1⟩
  have HB1 := Lib.hid (HBA.out.kept hg1 (by simp; omega))
  have HC1 := Lib.hid hc1
  have HG1 := Lib.hid (grown_trans (grown_widen HGA.out) hg1)
  have d0 : w1.cell? ⟨W.heap.size, 0, none⟩ = some (.int .i64 5) := HB1.out.cell rfl
  have d1 : w1.cell? ⟨W.heap.size, 1, none⟩ = some (.int .i64 n) := HB1.out.cell rfl
  have d2 : w1.cell? ⟨W.heap.size, 2, none⟩ = some (.string t) := HB1.out.cell rfl
  have d3 : w1.cell? ⟨W.heap.size, 3, none⟩ = some (.slice an ns.length cn) := HB1.out.cell rfl
  have d4 : w1.cell? ⟨W.heap.size, 4, none⟩ = some (.slice ak ks.length ck) := HB1.out.cell rfl
  have HCL := Lib.hid ((hasOnly_any w1 (HX.out.tab.kept HG1.out (fun q e => by cases e; have := HX.out.two; have := HX.out.le; omega)) 5 n t ns.length ks.length an ak cn ck).mono (R' := fun e w' => e = .returned (.bool true) ∧ w1.grownBy w' none) (fun e w' h => ⟨h.1.is_yes HO.out, h.2⟩))
  clear hc1 hg1 HEN
  go_wp2_with fail
  refine HCL.out.mono ?_
  rintro e w2 ⟨rfl, hg2⟩
  have HG2 := Lib.hid (grown_trans HG1.out (grown_widen hg2))
  have HC2 := Lib.hid (Blk.kept HC1.out hg2 (by simp))
  have HB2 := Lib.hid (HB1.out.kept hg2 (by simp))
  clear hg2 HCL d0 d1 d2 d3 d4
  have d0 : w2.cell? ⟨W.heap.size, 0, none⟩ = some (.int .i64 5) := HB2.out.cell rfl
  have d4 : w2.cell? ⟨W.heap.size, 4, none⟩ = some (.slice ak ks.length ck) := HB2.out.cell rfl
  have h2b : 2 ≤ bc := by have := HX.out.two; have := HX.out.le; omega
  have HCA := Lib.hid (HND.out w2 (grown_into HX.out.gr HG2.out HX.out.le) bc (l + 1) (p + 1) HX.out.le HC2.out (by omega) (by omega) (HX.out.tab.kept HG2.out (fun q e => by cases e; exact h2b)) h2b)
  go_wp2_with fail
  refine HCA.out.mono ?_
  rintro e w3 ⟨sv, ev, rfl, hg3, hr⟩
  have HG3 := Lib.hid (grown_trans HG2.out hg3)
  have hsz := HG2.out.size
  have HR := Lib.hid hr
  clear hr hg3 HCA d0 d4
  rcases HR.out with ⟨rfl, hok, hcnt, ao, c, xs, rfl, hc, hka, hnin⟩ | ⟨rfl, ⟨q, rfl⟩, hno, l', p', hl1, hl2, hp1, hcnt⟩
  · have HOK := Lib.hid hok
    have HCT := Lib.hid hcnt
    have HKA := Lib.hid (hka.wide (B := fun b => b < w.heap.size ∨ W.heap.size ≤ b) (fun b h => h.elim .inl (fun h => .inr (Nat.le_trans hsz h))))
    have HNI := Lib.hid (fun j k hj => (hnin j k hj).wide (B := fun b => b < w.heap.size ∨ W.heap.size ≤ b) (fun b h => h.elim .inl (fun h => .inr (Nat.le_trans hsz h))))
    clear HR hok hcnt hka hnin
    go_wp2
    refine node_door _ _ HCT.out (by omega) rfl rfl fun w4 hc4 hg4 => ?_
    have hA : ∀ q, some bc = some q → ¬ (q < w.heap.size ∨ W.heap.size ≤ q) := fun q e => by cases e; have := HX.out.le; omega
    exact .fine (grown_trans HG3.out hg4) hl ⟨⟨fun _ => by have := HO.out.2.2.2.1; omega, fun _ => by have := HO.out.2.2.1; omega, .inr (.inr (.inr (.inr (.inl ⟨rfl, by have := HO.out.2.1; omega, HOK.out.1⟩))))⟩, HOK.out.2⟩ hc4 (.list xs (HKA.out.kept hg4 hA) (fun j k hj => (HNI.out j k hj).kept hg4 hA) hc)
  · obtain ⟨l2, rfl⟩ : ∃ l2, l' = l2 + 1 := ⟨l' - 1, by omega⟩
    have HNO := Lib.hid hno
    have HCT := Lib.hid hcnt
    clear HR hno hcnt
    go_wp2
    refine node_door _ _ HCT.out (by omega) rfl rfl fun w4 hc4 hg4 => ?_
    exact .bad (grown_trans HG3.out hg4) hl ⟨_, rfl⟩ (fun h => HNO.out ⟨by rcases h.1.2.2 with h | h | h | h | h | h <;> first | (exact absurd h.1 (by decide)) | exact h.2.2, h.2⟩) l2 p' (by omega) (by omega) hp1 hc4

set_option maxRecDepth 100000 in
set_option maxHeartbeats 2000000 in
theorem node_6 (w W : World) (bc l p : Nat) (hx : NCtx w W bc l p) (hl : l < 3) (hp : p < 16) (n : Int) (t : ByteArray) (ns : List ByteArray) (ks : List VT) (an ak : Option Addr) (cn ck : Nat) (ho : HasOnly 6 n t ns.length ks.length) (hnd : ∀ W0 : World, w.grownBy W0 none → ∀ bc L P : Nat, w.heap.size ≤ bc → Cnt W0 bc L P → L ≤ 3 → P ≤ 16 → Tab W0 → 2 ≤ bc → Calls Tryz.prog 99 #[.pointer (some ⟨bc, 0, none⟩), .slice ak ks.length ck] W0 fun e w' => NodesR W0 w' w.heap.size bc L P ks e) (base : Nat) (hlb : Lies w base an ns) (hnl : ns.length ≤ 1048576) (hsl : ∀ s ∈ ns, s.size ≤ 1048576) (hcn : ns.length ≤ cn) :
    Calls Tryz.prog 67 #[.pointer (some ⟨bc, 0, none⟩), .agg #[.int .i64 6, .int .i64 n, .string t, .slice an ns.length cn, .slice ak ks.length ck]] W fun e w' => NodeR W w' w.heap.size bc l p (.node 6 n t ns ks) e := by
  have HGA := Lib.hid (show W.grownBy (W.alloc (Obj.cells #[Value.int .i64 6, .int .i64 n, .string t, .slice an ns.length cn, .slice ak ks.length ck] 27)) none from grown_alloc (grown_refl _ _) _)
  have HBA := Lib.hid (Blk.new W 27 [.int .i64 6, .int .i64 n, .string t, .slice an ns.length cn, .slice ak ks.length ck])
  have HEN := Lib.hid (enter_yes (W.alloc (Obj.cells #[Value.int .i64 6, .int .i64 n, .string t, .slice an ns.length cn, .slice ak ks.length ck] 27)) bc l p (Blk.alloc hx.cnt _) hl hp)
  have HX := Lib.hid hx
  have HO := Lib.hid ho
  have hbl : bc < W.heap.size := hx.cnt.lt
  have HND := Lib.hid (iobject_any w base n t ns ks an ak cn ck hlb hnl hsl hcn hnd)
  clear hx ho hnd hlb hsl
  go_enter_defers Tryz.func67, Tryz.ntmps67
  go_wp2_with fail
  refine HEN.out.mono ?_
  rintro e w1 ⟨rfl, hc1, hg1⟩
  have HB1 := Lib.hid (HBA.out.kept hg1 (by simp; omega))
  have HC1 := Lib.hid hc1
  have HG1 := Lib.hid (grown_trans (grown_widen HGA.out) hg1)
  have d0 : w1.cell? ⟨W.heap.size, 0, none⟩ = some (.int .i64 6) := HB1.out.cell rfl
  have d1 : w1.cell? ⟨W.heap.size, 1, none⟩ = some (.int .i64 n) := HB1.out.cell rfl
  have d2 : w1.cell? ⟨W.heap.size, 2, none⟩ = some (.string t) := HB1.out.cell rfl
  have d3 : w1.cell? ⟨W.heap.size, 3, none⟩ = some (.slice an ns.length cn) := HB1.out.cell rfl
  have d4 : w1.cell? ⟨W.heap.size, 4, none⟩ = some (.slice ak ks.length ck) := HB1.out.cell rfl
  have HCL := Lib.hid ((hasOnly_any w1 (HX.out.tab.kept HG1.out (fun q e => by cases e; have := HX.out.two; have := HX.out.le; omega)) 6 n t ns.length ks.length an ak cn ck).mono (R' := fun e w' => e = .returned (.bool true) ∧ w1.grownBy w' none) (fun e w' h => ⟨h.1.is_yes HO.out, h.2⟩))
  clear hc1 hg1 HEN
  go_wp2_with fail
  refine HCL.out.mono ?_
  rintro e w2 ⟨rfl, hg2⟩
  have HG2 := Lib.hid (grown_trans HG1.out (grown_widen hg2))
  have HC2 := Lib.hid (Blk.kept HC1.out hg2 (by simp))
  have HB2 := Lib.hid (HB1.out.kept hg2 (by simp))
  clear hg2 HCL d0 d1 d2 d3 d4
  have d0 : w2.cell? ⟨W.heap.size, 0, none⟩ = some (.int .i64 6) := HB2.out.cell rfl
  have d1 : w2.cell? ⟨W.heap.size, 1, none⟩ = some (.int .i64 n) := HB2.out.cell rfl
  have d2 : w2.cell? ⟨W.heap.size, 2, none⟩ = some (.string t) := HB2.out.cell rfl
  have d3 : w2.cell? ⟨W.heap.size, 3, none⟩ = some (.slice an ns.length cn) := HB2.out.cell rfl
  have d4 : w2.cell? ⟨W.heap.size, 4, none⟩ = some (.slice ak ks.length ck) := HB2.out.cell rfl
  have h2b : 2 ≤ bc := by have := HX.out.two; have := HX.out.le; omega
  have HCA := Lib.hid (HND.out w2 (grown_into HX.out.gr HG2.out HX.out.le) bc (l + 1) (p + 1) HX.out.le HC2.out (by omega) (by omega) (HX.out.tab.kept HG2.out (fun q e => by cases e; exact h2b)) h2b)
  go_wp2_with fail
  refine HCA.out.mono ?_
  rintro e w3 ⟨nv, ev, rfl, hg3, hr⟩
  have HG3 := Lib.hid (grown_trans HG2.out hg3)
  have hsz := HG2.out.size
  have HR := Lib.hid hr
  clear hr hg3 HCA d0 d1 d2 d3 d4
  rcases HR.out with ⟨rfl, hok, hcnt, hnin⟩ | ⟨⟨q, rfl⟩, hno, l', p', hl1, hl2, hp1, hcnt⟩
  · have HOK := Lib.hid hok
    have HCT := Lib.hid hcnt
    have HNI := Lib.hid (hnin.wide (B := fun b => b < w.heap.size ∨ W.heap.size ≤ b) (fun b h => h.elim .inl (fun h => .inr (Nat.le_trans hsz h))))
    clear HR hok hcnt hnin
    go_wp2
    refine node_door _ _ HCT.out (by omega) rfl rfl fun w4 hc4 hg4 => ?_
    have hA : ∀ q, some bc = some q → ¬ (q < w.heap.size ∨ W.heap.size ≤ q) := fun q e => by cases e; have := HX.out.le; omega
    have ho1 := HOK.out.1
    exact .fine (grown_trans HG3.out hg4) hl ⟨⟨fun h => absurd rfl h, fun _ => by have := HO.out.2.2.1; omega, .inr (.inr (.inr (.inr (.inr ⟨rfl, by have := HO.out.2.1; omega, ho1.1.symm, by have := ho1.1; have := ho1.2.1; omega, ho1.2.2⟩))))⟩, HOK.out.2⟩ hc4 (HNI.out.kept hg4 hA)
  · obtain ⟨l2, rfl⟩ : ∃ l2, l' = l2 + 1 := ⟨l' - 1, by omega⟩
    have HNO := Lib.hid hno
    have HCT := Lib.hid hcnt
    clear HR hno hcnt
    go_wp2
    refine node_door _ _ HCT.out (by omega) rfl rfl fun w4 hc4 hg4 => ?_
    exact .bad (grown_trans HG3.out hg4) hl ⟨_, rfl⟩ (fun h => HNO.out ⟨by rcases h.1.2.2 with h | h | h | h | h | h <;> first | (exact absurd h.1 (by decide)) | exact ⟨h.2.2.1.symm, by have := h.2.2.1; have := h.2.2.2.1; omega, h.2.2.2.2⟩, h.2⟩) l2 p' (by omega) (by omega) hp1 hc4

end Go.Proofs.YtgmigloafcejdaaGreatDoor
