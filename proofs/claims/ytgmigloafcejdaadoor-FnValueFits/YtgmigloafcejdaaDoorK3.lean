/- The program's check of an object. -/
import Derived.Test.YtgmigloafcejdaaDoorK2
namespace Go.Proofs.YtgmigloafcejdaaDoor
open Go.RowKit

/-- what is asked of an object -/
def ObjOk (L P : Nat) (ns : List ByteArray) (ks : List VT) : Prop := (ns.length = ks.length ∧ ns.length ≤ 5 ∧ NamesOk ns) ∧ PartsK ks (L + 1) ∧ P + countK ks ≤ 16
def ObjR (W w' : World) (N bc L P : Nat) (n : Int) (t : ByteArray) (ns : List ByteArray) (ks : List VT) (e : Ending) : Prop :=
  ∃ nv ev, e = .returned (.tuple #[nv, ev]) ∧ W.grownBy w' (some bc) ∧
    ((ev = .nilIface ∧ ObjOk L P ns ks ∧ Cnt w' bc L (P + countK ks) ∧ NIn w' (fun b => b < N ∨ W.heap.size ≤ b) (.node 6 n t ns ks) nv) ∨
     (Fault ev ∧ ¬ ObjOk L P ns ks ∧ ∃ l' p', L ≤ l' ∧ l' ≤ L + 1 ∧ p' ≤ 17 ∧ Cnt w' bc l' p'))

set_option maxRecDepth 100000 in
set_option maxHeartbeats 2000000 in
theorem iobject_ne (N : Nat) (n : Int) (t : ByteArray) (ns : List ByteArray) (ks : List VT) (an ak : Option Addr) (cn ck : Nat) (W : World) (bc L P : Nat) (hct : Cnt W bc L P) (hP : P ≤ 16) (h1 : ¬ ns.length = ks.length) :
    Calls Tryd.prog 66 #[.pointer (some ⟨bc, 0, none⟩), .agg #[.int .i64 6, .int .i64 n, .string t, .slice an ns.length cn, .slice ak ks.length ck]] W fun e w' => ObjR W w' N bc L P n t ns ks e := by
  have HGA := Lib.hid (show W.grownBy (W.alloc (Obj.cells #[Value.int .i64 6, .int .i64 n, .string t, .slice an ns.length cn, .slice ak ks.length ck] 26)) none from grown_alloc (grown_refl _ _) _)
  have HC := Lib.hid (show Cnt (W.alloc (Obj.cells #[Value.int .i64 6, .int .i64 n, .string t, .slice an ns.length cn, .slice ak ks.length ck] 26)) bc L P from Blk.alloc hct _)
  have HF := Lib.hid (fault_any _ bc L P HC.out)
  have hbl : bc < W.heap.size := hct.lt
  have HNO := Lib.hid (fun h : ¬ ObjOk L P ns ks => show ObjR W (W.alloc (Obj.cells #[Value.int .i64 6, .int .i64 n, .string t, .slice an ns.length cn, .slice ak ks.length ck] 26)) N bc L P n t ns ks (.returned (.tuple #[.nilIface, .iface 71 (.agg #[.int .i64 (P : Int)])])) from
      ⟨_, _, rfl, grown_widen HGA.out, .inr ⟨⟨_, rfl⟩, h, L, P, Nat.le_refl _, by omega, by omega, HC.out⟩⟩)
  clear hct
  have HD := Lib.hid (HNO.out (fun h => h1 h.1.1))
  go_enter Tryd.func66, Tryd.ntmps66
  go_wp2_with fail
  refine HF.out.mono ?_
  rintro e w1 ⟨rfl, hw⟩
  have HWW := Lib.hid hw
  clear hw
  go_wp2
  go_ret2
  rw [HWW.out]
  exact HD.out

set_option maxRecDepth 100000 in
set_option maxHeartbeats 2000000 in
theorem iobject_eq (w : World) (base : Nat) (n : Int) (t : ByteArray) (ns : List ByteArray) (ks : List VT) (an ak : Option Addr) (cn ck : Nat) (hl : Lies w base an ns) (hnl : ns.length ≤ 1048576) (hsl : ∀ s ∈ ns, s.size ≤ 1048576) (hcn : ns.length ≤ cn)
    (hnd : ∀ W0 : World, w.grownBy W0 none → ∀ bc L P : Nat, w.heap.size ≤ bc → Cnt W0 bc L P → L ≤ 3 → P ≤ 16 → Tab W0 → 2 ≤ bc → Calls Tryd.prog 65 #[.pointer (some ⟨bc, 0, none⟩), .slice ak ks.length ck] W0 fun e w' => NodesR W0 w' w.heap.size bc L P ks e)
    (W : World) (hW : w.grownBy W none) (bc L P : Nat) (hbc : w.heap.size ≤ bc) (hct : Cnt W bc L P) (hL : L ≤ 3) (hP : P ≤ 16) (hT : Tab W) (hb2 : 2 ≤ bc) (m : Nat) (HM1 : Hid (ns.length = m)) (HM2 : Hid (ks.length = m)) :
    Calls Tryd.prog 66 #[.pointer (some ⟨bc, 0, none⟩), .agg #[.int .i64 6, .int .i64 n, .string t, .slice an m cn, .slice ak m ck]] W fun e w' => ObjR W w' w.heap.size bc L P n t ns ks e := by
  have HGA := Lib.hid (show W.grownBy (W.alloc (Obj.cells #[Value.int .i64 6, .int .i64 n, .string t, .slice an m cn, .slice ak m ck] 26)) none from grown_alloc (grown_refl _ _) _)
  have HBA := Lib.hid (Blk.new W 26 [.int .i64 6, .int .i64 n, .string t, .slice an m cn, .slice ak m ck])
  have HL := Lib.hid hl
  have HW := Lib.hid hW
  have HT := Lib.hid hT
  have HC := Lib.hid (show Cnt (W.alloc (Obj.cells #[Value.int .i64 6, .int .i64 n, .string t, .slice an m cn, .slice ak m ck] 26)) bc L P from Blk.alloc hct _)
  have HF := Lib.hid (fault_any _ bc L P HC.out)
  have HNM0 := inamesOk_any (W.alloc (Obj.cells #[Value.int .i64 6, .int .i64 n, .string t, .slice an m cn, .slice ak m ck] 26)) base ns an cn (hl.kept (grown_trans hW HGA.out) (fun q e => by cases e)) hnl hsl
  rw [HM1.out] at HNM0
  have HNM := Lib.hid HNM0
  have HND0 := hnd _ (grown_trans hW HGA.out) bc L P hbc HC.out hL hP (hT.grown HGA.out) hb2
  rw [HM2.out] at HND0
  have HND := Lib.hid HND0
  have hbl : bc < W.heap.size := hct.lt
  have HNO := Lib.hid (fun h : ¬ ObjOk L P ns ks => show ObjR W (W.alloc (Obj.cells #[Value.int .i64 6, .int .i64 n, .string t, .slice an m cn, .slice ak m ck] 26)) w.heap.size bc L P n t ns ks (.returned (.tuple #[.nilIface, .iface 71 (.agg #[.int .i64 (P : Int)])])) from
      ⟨_, _, rfl, grown_widen HGA.out, .inr ⟨⟨_, rfl⟩, h, L, P, Nat.le_refl _, by omega, by omega, HC.out⟩⟩)
  have hm : m ≤ 1048576 := by have := HM1.out; omega
  clear hl hW hT hct hnd hsl HNM0 HND0 hnl
  by_cases h5 : (5 : Int) < m
  · have HD := Lib.hid (HNO.out (fun h => by have := h.1.2.1; have := HM1.out; omega))
    go_enter Tryd.func66, Tryd.ntmps66
    go_wp2_with fail
    refine HF.out.mono ?_
    rintro e w1 ⟨rfl, hw⟩
    have HWW := Lib.hid hw
    clear hw
    go_wp2
    go_ret2
    rw [HWW.out]
    exact HD.out
  by_cases hN : NamesOk ns
  case neg =>
    have HD := Lib.hid (HNO.out (fun h => hN h.1.2.2))
    have HCL := Lib.hid (HNM.out.mono (R' := fun e w' => e = .returned (.bool false) ∧ w' = _) (fun e w' h => ⟨h.1.is_no hN, h.2⟩))
    clear hN HNM
    go_enter Tryd.func66, Tryd.ntmps66
    go_wp2_with fail
    refine HCL.out.mono ?_
    rintro e w1 ⟨rfl, hw⟩
    have hw := hw.symm
    subst hw
    go_wp2_with fail
    refine HF.out.mono ?_
    rintro e w1 ⟨rfl, hw⟩
    have HWW := Lib.hid hw
    clear hw
    go_wp2
    go_ret2
    rw [HWW.out]
    exact HD.out
  have HCL := Lib.hid (HNM.out.mono (R' := fun e w' => e = .returned (.bool true) ∧ w' = _) (fun e w' h => ⟨h.1.is_yes hN, h.2⟩))
  have HN := Lib.hid hN
  clear hN HNM
  go_enter Tryd.func66, Tryd.ntmps66
  go_wp2_with fail
  refine HCL.out.mono ?_
  rintro e w1 ⟨rfl, hw⟩
  have hw := hw.symm
  subst hw
  go_wp2_with fail
  refine HND.out.mono ?_
  rintro e w1 ⟨sv, ev, rfl, hg1, hr⟩
  have HG1 := Lib.hid (grown_trans (grown_widen HGA.out) hg1)
  have HB1 := Lib.hid (HBA.out.kept hg1 (by simp; omega))
  have d3 : w1.cell? ⟨W.heap.size, 3, none⟩ = some (.slice an m cn) := HB1.out.cell rfl
  have HR := Lib.hid hr
  clear hr hg1 HND HCL HF
  rcases HR.out with ⟨rfl, hok, hcnt, ao, c, xs, hsv, hc, hka, hnin⟩ | ⟨rfl, ⟨q, rfl⟩, hno, l', p', hl1, hl2, hp1, hcnt⟩
  · rw [HM2.out] at hsv
    subst hsv
    have HD := Lib.hid (show ObjR W w1 w.heap.size bc L P n t ns ks (.returned (.tuple #[.iface 83 (.agg #[.slice ao m c, .slice an m cn]), .nilIface])) from
      ⟨_, _, rfl, HG1.out, .inl ⟨rfl, ⟨⟨HM1.out.trans HM2.out.symm, by have := HM1.out; omega, HN.out⟩, hok.2⟩, hcnt, by
        have hob := NIn.obj (n := n) (t := t) (A := fun b => b < w.heap.size ∨ W.heap.size ≤ b) xs (hka.wide (fun b h => h.elim .inl (fun h => .inr (by simp at h; omega)))) (fun j k hj => (hnin j k hj).wide (fun b h => h.elim .inl (fun h => .inr (by simp at h; omega)))) hc ((HL.out.inA (A := fun b => b < w.heap.size ∨ W.heap.size ≤ b) (fun b h => .inl h)).kept (grown_into HW.out HG1.out hbc) (fun q e => by cases e)) hcn
        rw [HM1.out, HM2.out] at hob
        exact hob⟩⟩)
    clear HR hok hcnt hka hnin
    go_wp2
    go_ret2
    exact HD.out
  · have HD := Lib.hid (fun x : Value => show ObjR W w1 w.heap.size bc L P n t ns ks (.returned (.tuple #[x, .iface 71 (.agg #[.int .i64 q])])) from
      ⟨_, _, rfl, HG1.out, .inr ⟨⟨_, rfl⟩, fun h => hno ⟨by have := h.1.1; have := h.1.2.1; omega, h.2⟩, l', p', hl1, hl2, hp1, hcnt⟩⟩)
    clear HR hno hcnt
    go_wp2
    go_ret2
    exact HD.out _

theorem iobject_any (w : World) (base : Nat) (n : Int) (t : ByteArray) (ns : List ByteArray) (ks : List VT) (an ak : Option Addr) (cn ck : Nat) (hl : Lies w base an ns) (hnl : ns.length ≤ 1048576) (hsl : ∀ s ∈ ns, s.size ≤ 1048576) (hcn : ns.length ≤ cn)
    (hnd : ∀ W0 : World, w.grownBy W0 none → ∀ bc L P : Nat, w.heap.size ≤ bc → Cnt W0 bc L P → L ≤ 3 → P ≤ 16 → Tab W0 → 2 ≤ bc → Calls Tryd.prog 65 #[.pointer (some ⟨bc, 0, none⟩), .slice ak ks.length ck] W0 fun e w' => NodesR W0 w' w.heap.size bc L P ks e)
    (W : World) (hW : w.grownBy W none) (bc L P : Nat) (hbc : w.heap.size ≤ bc) (hct : Cnt W bc L P) (hL : L ≤ 3) (hP : P ≤ 16) (hT : Tab W) (hb2 : 2 ≤ bc) :
    Calls Tryd.prog 66 #[.pointer (some ⟨bc, 0, none⟩), .agg #[.int .i64 6, .int .i64 n, .string t, .slice an ns.length cn, .slice ak ks.length ck]] W fun e w' => ObjR W w' w.heap.size bc L P n t ns ks e := by
  by_cases h : ns.length = ks.length
  · have := iobject_eq w base n t ns ks an ak cn ck hl hnl hsl hcn hnd W hW bc L P hbc hct hL hP hT hb2 ks.length (Lib.hid h) (Lib.hid rfl)
    rw [h]
    exact this
  · exact iobject_ne w.heap.size n t ns ks an ak cn ck W bc L P hct hP h
end Go.Proofs.YtgmigloafcejdaaDoor
