/- The program's check of an object. -/
import Derived.Test.YtgmigloafcejdaaGreatDoorK1
namespace Go.Proofs.YtgmigloafcejdaaGreatDoor
open Go.RowKit

/-- what is asked of an object -/
def ObjOk (L P : Nat) (ns : List ByteArray) (ks : List VT) : Prop := (ns.length = ks.length ∧ ns.length ≤ 5 ∧ NamesOk ns) ∧ PartsK ks (L + 1) ∧ P + countK ks ≤ 16
def ObjR (W w' : World) (N bc L P : Nat) (n : Int) (t : ByteArray) (ns : List ByteArray) (ks : List VT) (e : Ending) : Prop :=
  ∃ nv ev, e = .returned (.tuple #[nv, ev]) ∧ W.grownBy w' (some bc) ∧
    ((ev = .nilIface ∧ ObjOk L P ns ks ∧ Cnt w' bc L (P + countK ks) ∧ NIn w' (fun b => b < N ∨ W.heap.size ≤ b) (.node 6 n t ns ks) nv) ∨
     (Fault ev ∧ ¬ ObjOk L P ns ks ∧ ∃ l' p', L ≤ l' ∧ l' ≤ L + 1 ∧ p' ≤ 17 ∧ Cnt w' bc l' p'))

set_option maxRecDepth 100000 in
set_option maxHeartbeats 2000000 in
theorem iobject_ne (N : Nat) (n : Int) (t : ByteArray) (ns : List ByteArray) (ks : List VT) (an ak : Option Addr) (cn ck : Nat) (W : World) (bc L P : Nat) (hct : Cnt W bc L P) (hP : P ≤ 16) (h1 : ¬ ns.length = ks.length) :
    Calls Tryz.prog 100 #[.pointer (some ⟨bc, 0, none⟩), .agg #[.int .i64 6, .int .i64 n, .string t, .slice an ns.length cn, .slice ak ks.length ck]] W fun e w' => ObjR W w' N bc L P n t ns ks e := by
  have HGA := Lib.hid (show W.grownBy (W.alloc (Obj.cells #[Value.int .i64 6, .int .i64 n, .string t, .slice an ns.length cn, .slice ak ks.length ck] 27)) none from grown_alloc (grown_refl _ _) _)
  have HC := Lib.hid (show Cnt (W.alloc (Obj.cells #[Value.int .i64 6, .int .i64 n, .string t, .slice an ns.length cn, .slice ak ks.length ck] 27)) bc L P from Blk.alloc hct _)
  have HF := Lib.hid (fault_any _ bc L P HC.out)
  have hbl : bc < W.heap.size := hct.lt
  have HNO := Lib.hid (fun h : ¬ ObjOk L P ns ks => show ObjR W (W.alloc (Obj.cells #[Value.int .i64 6, .int .i64 n, .string t, .slice an ns.length cn, .slice ak ks.length ck] 27)) N bc L P n t ns ks (.returned (.tuple #[.nilIface, .iface 93 (.agg #[.int .i64 (P : Int)])])) from
      ⟨_, _, rfl, grown_widen HGA.out, .inr ⟨⟨_, rfl⟩, h, L, P, Nat.le_refl _, by omega, by omega, HC.out⟩⟩)
  clear hct
  have HD := Lib.hid (HNO.out (fun h => h1 h.1.1))
  go_enter Tryz.func100, Tryz.ntmps100
  go_wp2_with fail
  refine HF.out.mono ?_
  rintro e w1 ⟨rfl, hw⟩
  have HWW := Lib.hid hw
  clear hw
  go_wp2
  go_ret2
  rw [HWW.out]
  exact HD.out

set_option maxRecDepth 100000 in
set_option maxHeartbeats 2000000 in
theorem iobject_eq (w : World) (base : Nat) (n : Int) (t : ByteArray) (ns : List ByteArray) (ks : List VT) (an ak : Option Addr) (cn ck : Nat) (hl : Lies w base an ns) (hnl : ns.length ≤ 1048576) (hsl : ∀ s ∈ ns, s.size ≤ 1048576) (hcn : ns.length ≤ cn)
    (hnd : ∀ W0 : World, w.grownBy W0 none → ∀ bc L P : Nat, w.heap.size ≤ bc → Cnt W0 bc L P → L ≤ 3 → P ≤ 16 → Tab W0 → 2 ≤ bc → Calls Tryz.prog 99 #[.pointer (some ⟨bc, 0, none⟩), .slice ak ks.length ck] W0 fun e w' => NodesR W0 w' w.heap.size bc L P ks e)
    (W : World) (hW : w.grownBy W none) (bc L P : Nat) (hbc : w.heap.size ≤ bc) (hct : Cnt W bc L P) (hL : L ≤ 3) (hP : P ≤ 16) (hT : Tab W) (hb2 : 2 ≤ bc) (m : Nat) (HM1 : Hid (ns.length = m)) (HM2 : Hid (ks.length = m)) :
    Calls Tryz.prog 100 #[.pointer (some ⟨bc, 0, none⟩), .agg #[.int .i64 6, .int .i64 n, .string t, .slice an m cn, .slice ak m ck]] W fun e w' => ObjR W w' w.heap.size bc L P n t ns ks e := by
  have HGA := Lib.hid (show W.grownBy (W.alloc (Obj.cells #[Value.int .i64 6, .int .i64 n, .string t, .slice an m cn, .slice ak m ck] 27)) none from grown_alloc (grown_refl _ _) _)
  have HBA := Lib.hid (Blk.new W 27 [.int .i64 6, .int .i64 n, .string t, .slice an m cn, .slice ak m ck])
  have HL := Lib.hid hl
  have HW := Lib.hid hW
  have HT := Lib.hid hT
  have HC := Lib.hid (show Cnt (W.alloc (Obj.cells #[Value.int .i64 6, .int .i64 n, .string t, .slice an m cn, .slice ak m ck] 27)) bc L P from Blk.alloc hct _)
  have HF := Lib.hid (fault_any _ bc L P HC.out)
  have HNM0 := inamesOk_any (W.alloc (Obj.cells #[Value.int .i64 6, .int .i64 n, .string t, .slice an m cn, .slice ak m ck] 27)) base ns an cn (hl.kept (grown_trans hW HGA.out) (fun q e => by cases e)) hnl hsl
  rw [HM1.out] at HNM0
  have HNM := Lib.hid HNM0
  have HND0 := hnd _ (grown_trans hW HGA.out) bc L P hbc HC.out hL hP (hT.grown HGA.out) hb2
  rw [HM2.out] at HND0
  have HND := Lib.hid HND0
  have hbl : bc < W.heap.size := hct.lt
  have HNO := Lib.hid (fun h : ¬ ObjOk L P ns ks => show ObjR W (W.alloc (Obj.cells #[Value.int .i64 6, .int .i64 n, .string t, .slice an m cn, .slice ak m ck] 27)) w.heap.size bc L P n t ns ks (.returned (.tuple #[.nilIface, .iface 93 (.agg #[.int .i64 (P : Int)])])) from
      ⟨_, _, rfl, grown_widen HGA.out, .inr ⟨⟨_, rfl⟩, h, L, P, Nat.le_refl _, by omega, by omega, HC.out⟩⟩)
  have hm : m ≤ 1048576 := by have := HM1.out; omega
  clear hl hW hT hct hnd hsl HNM0 HND0 hnl
  by_cases h5 : (5 : Int) < m
  · have HD := Lib.hid (HNO.out (fun h => by have := h.1.2.1; have := HM1.out; omega))
    go_enter Tryz.func100, Tryz.ntmps100
    go_wp2_with fail
    refine HF.out.mono ?_
    rintro e w1 ⟨rfl, hw⟩
    have HWW := Lib.hid hw
    clear hw
    go_wp2
    go_ret2
    rw [HWW.out]
    exact HD.out
  by_cases hN : NamesOk ns
  case neg =>
    have HD := Lib.hid (HNO.out (fun h => hN h.1.2.2))
    have HCL := Lib.hid (HNM.out.mono (R' := fun e w' => e = .returned (.bool false) ∧ w' = _) (fun e w' h => ⟨h.1.is_no hN, h.2⟩))
    clear hN HNM
    go_enter Tryz.func100, Tryz.ntmps100
    go_wp2_with fail
    refine HCL.out.mono ?_
    rintro e w1 ⟨rfl, hw⟩
    have hw := hw.symm
    subst hw
    go_wp2_with fail
    refine HF.out.mono ?_
    rintro e w1 ⟨rfl, hw⟩
    have HWW := Lib.hid hw
    clear hw
    go_wp2
    go_ret2
    rw [HWW.out]
    exact HD.out
  have HCL := Lib.hid (HNM.out.mono (R' := fun e w' => e = .returned (.bool true) ∧ w' = _) (fun e w' h => ⟨h.1.is_yes hN, h.2⟩))
  have HN := Lib.hid hN
  clear hN HNM
  go_enter Tryz.func100, Tryz.ntmps100
  go_wp2_with fail
  refine HCL.out.mono ?_
  rintro e w1 ⟨rfl, hw⟩
  have hw := hw.symm
  subst hw
  go_wp2_with fail
  refine HND.out.mono ?_
  rintro e w1 ⟨sv, ev, rfl, hg1, hr⟩
  have HG1 := Lib.hid (grown_trans (grown_widen HGA.out) hg1)
  have HB1 := Lib.hid (HBA.out.kept hg1 (by simp; omega))
  have d3 : w1.cell? ⟨W.heap.size, 3, none⟩ = some (.slice an m cn) := HB1.out.cell rfl
  have HR := Lib.hid hr
  clear hr hg1 HND HCL HF
  rcases HR.out with ⟨rfl, hok, hcnt, ao, c, xs, hsv, hc, hka, hnin⟩ | ⟨rfl, ⟨q, rfl⟩, hno, l', p', hl1, hl2, hp1, hcnt⟩
  · rw [HM2.out] at hsv
    subst hsv
    have HD := Lib.hid (show ObjR W w1 w.heap.size bc L P n t ns ks (.returned (.tuple #[.iface 108 (.agg #[.slice ao m c, .slice an m cn]), .nilIface])) from
      ⟨_, _, rfl, HG1.out, .inl ⟨rfl, ⟨⟨HM1.out.trans HM2.out.symm, by have := HM1.out; omega, HN.out⟩, hok.2⟩, hcnt, by
        have hob := NIn.obj (n := n) (t := t) (A := fun b => b < w.heap.size ∨ W.heap.size ≤ b) xs (hka.wide (fun b h => h.elim .inl (fun h => .inr (by simp at h; omega)))) (fun j k hj => (hnin j k hj).wide (fun b h => h.elim .inl (fun h => .inr (by simp at h; omega)))) hc ((HL.out.inA (A := fun b => b < w.heap.size ∨ W.heap.size ≤ b) (fun b h => .inl h)).kept (grown_into HW.out HG1.out hbc) (fun q e => by cases e)) hcn
        rw [HM1.out, HM2.out] at hob
        exact hob⟩⟩)
    clear HR hok hcnt hka hnin
    go_wp2
    go_ret2
    exact HD.out
  · have HD := Lib.hid (fun x : Value => show ObjR W w1 w.heap.size bc L P n t ns ks (.returned (.tuple #[x, .iface 93 (.agg #[.int .i64 q])])) from
      ⟨_, _, rfl, HG1.out, .inr ⟨⟨_, rfl⟩, fun h => hno ⟨by have := h.1.1; have := h.1.2.1; omega, h.2⟩, l', p', hl1, hl2, hp1, hcnt⟩⟩)
    clear HR hno hcnt
    go_wp2
    go_ret2
    exact HD.out _

theorem iobject_any (w : World) (base : Nat) (n : Int) (t : ByteArray) (ns : List ByteArray) (ks : List VT) (an ak : Option Addr) (cn ck : Nat) (hl : Lies w base an ns) (hnl : ns.length ≤ 1048576) (hsl : ∀ s ∈ ns, s.size ≤ 1048576) (hcn : ns.length ≤ cn)
    (hnd : ∀ W0 : World, w.grownBy W0 none → ∀ bc L P : Nat, w.heap.size ≤ bc → Cnt W0 bc L P → L ≤ 3 → P ≤ 16 → Tab W0 → 2 ≤ bc → Calls Tryz.prog 99 #[.pointer (some ⟨bc, 0, none⟩), .slice ak ks.length ck] W0 fun e w' => NodesR W0 w' w.heap.size bc L P ks e)
    (W : World) (hW : w.grownBy W none) (bc L P : Nat) (hbc : w.heap.size ≤ bc) (hct : Cnt W bc L P) (hL : L ≤ 3) (hP : P ≤ 16) (hT : Tab W) (hb2 : 2 ≤ bc) :
    Calls Tryz.prog 100 #[.pointer (some ⟨bc, 0, none⟩), .agg #[.int .i64 6, .int .i64 n, .string t, .slice an ns.length cn, .slice ak ks.length ck]] W fun e w' => ObjR W w' w.heap.size bc L P n t ns ks e := by
  by_cases h : ns.length = ks.length
  · have := iobject_eq w base n t ns ks an ak cn ck hl hnl hsl hcn hnd W hW bc L P hbc hct hL hP hT hb2 ks.length (Lib.hid h) (Lib.hid rfl)
    rw [h]
    exact this
  · exact iobject_ne w.heap.size n t ns ks an ak cn ck W bc L P hct hP h
end Go.Proofs.YtgmigloafcejdaaGreatDoor

namespace Go.Proofs.YtgmigloafcejdaaGreatDoor
open Go.RowKit

theorem node_iff (s n : Int) (t : ByteArray) (ns : List ByteArray) (ks : List VT) (l p : Nat) (hl : l < 3) :
    (Parts (.node s n t ns ks) (l + 1) ∧ p + count (.node s n t ns ks) ≤ 16) ↔ (Plain s n t ns ks.length ∧ PartsK ks (l + 1 + 1) ∧ p + 1 + countK ks ≤ 16) := by
  rw [Parts, count]
  constructor
  · rintro ⟨⟨h1, _, h3⟩, h4⟩
    exact ⟨h1, h3, by omega⟩
  · rintro ⟨h1, h3, h4⟩
    exact ⟨⟨h1, by omega, h3⟩, by omega⟩
theorem count_node (s n : Int) (t : ByteArray) (ns : List ByteArray) (ks : List VT) : count (.node s n t ns ks) = 1 + countK ks := by rw [count]
theorem plain_has {s n : Int} {t : ByteArray} {ns : List ByteArray} {nk : Nat} (h : Plain s n t ns nk) : HasOnly s n t ns.length nk := by
  obtain ⟨h1, h2, h3⟩ := h
  rcases h3 with ⟨e, a, b⟩ | ⟨e, a, b⟩ | ⟨e, a, b⟩ | ⟨e, a, b, c⟩ | ⟨e, a, b⟩ | ⟨e, a, b, c, d⟩
  · exact ⟨by omega, .inr (.inr a), .inr (h2 (by omega)), .inr (h1 (by omega)), .inr (.inr b)⟩
  · exact ⟨by omega, .inl e, .inr (h2 (by omega)), .inr (h1 (by omega)), .inr (.inr b)⟩
  · exact ⟨by omega, .inr (.inl e), .inr (h2 (by omega)), .inr (h1 (by omega)), .inr (.inr b)⟩
  · exact ⟨by omega, .inr (.inr a), .inl e, .inr (h1 (by omega)), .inr (.inr b)⟩
  · exact ⟨by omega, .inr (.inr a), .inr (h2 (by omega)), .inr (h1 (by omega)), .inl e⟩
  · exact ⟨by omega, .inr (.inr a), .inr (h2 (by omega)), .inl e, .inr (.inl e)⟩

/-- what holds ahead of a check -/
structure NCtx (w W : World) (bc l p : Nat) : Prop where
  gr : w.grownBy W none
  le : w.heap.size ≤ bc
  cnt : Cnt W bc l p
  tab : Tab W
  two : 2 ≤ w.heap.size

theorem NodeR.fine {W w' : World} {N bc l p : Nat} {s n : Int} {t : ByteArray} {ns : List ByteArray} {ks : List VT} {nv : Value} (hg : W.grownBy w' (some bc)) (hl : l < 3) (h : Plain s n t ns ks.length ∧ PartsK ks (l + 1 + 1) ∧ p + 1 + countK ks ≤ 16) (hc : Cnt w' bc l (p + 1 + countK ks)) (hn : NIn w' (fun b => b < N ∨ W.heap.size ≤ b) (.node s n t ns ks) nv) :
    NodeR W w' N bc l p (.node s n t ns ks) (.returned (.tuple #[nv, .nilIface])) :=
  ⟨_, _, rfl, hg, .inl ⟨rfl, (node_iff s n t ns ks l p hl).2 h, by rw [count_node, ← Nat.add_assoc]; exact hc, hn⟩⟩
theorem NodeR.bad {W w' : World} {N bc l p : Nat} {s n : Int} {t : ByteArray} {ns : List ByteArray} {ks : List VT} {nv ev : Value} (hg : W.grownBy w' (some bc)) (hl : l < 3) (hf : Fault ev) (h : ¬ (Plain s n t ns ks.length ∧ PartsK ks (l + 1 + 1) ∧ p + 1 + countK ks ≤ 16)) (l' p' : Nat) (h1 : l ≤ l') (h2 : l' ≤ l + 1) (h3 : p' ≤ 17) (hc : Cnt w' bc l' p') :
    NodeR W w' N bc l p (.node s n t ns ks) (.returned (.tuple #[nv, ev])) :=
  ⟨_, _, rfl, hg, .inr ⟨hf, fun h4 => h ((node_iff s n t ns ks l p hl).1 h4), l', p', h1, h2, h3, hc⟩⟩

/-- the door: one deferred call is still to be made -/
theorem node_door {R : Ending → World → Prop} {tmps : Array Value} {w3 : World} {bc l p : Nat} (nv ev : Value) (hc : Cnt w3 bc (l + 1) p) (hl : l ≤ 100) (h4 : tmps.getD 4 undef = nv) (h5 : tmps.getD 5 undef = ev)
    (h : ∀ w4, Cnt w4 bc l p → w3.grownBy w4 (some bc) → R (.returned (.tuple #[nv, ev])) w4) :
    bodyPostD Tryz.prog Tryz.f67 R .ret { tmps := tmps, defers := [{ target := .fn (.func 56) #[], args := #[.pointer (some ⟨bc, 0, none⟩)] }] } w3 := by
  refine leaves_cons (f := 56) (args := #[.pointer (some ⟨bc, 0, none⟩)]) (by simp) (by simp [go_sem]) ?_
  refine (leave_d w3 .returning bc l p hc hl).mono ?_
  rintro e u' w4 ⟨rfl, rfl, hc4, hg4⟩
  refine ⟨_, results_tmp2 rfl _ _ _, ?_⟩
  rw [h4, h5]
  exact h w4 hc4 hg4

set_option maxRecDepth 100000 in
set_option maxHeartbeats 2000000 in
/-- too deep, or too many -/
theorem node_over (w W : World) (bc l p : Nat) (hx : NCtx w W bc l p) (hl : l ≤ 3) (hp : p ≤ 16) (hn : ¬ (l < 3 ∧ p < 16)) (s n : Int) (t : ByteArray) (ns : List ByteArray) (ks : List VT) (an ak : Option Addr) (cn ck : Nat) :
    Calls Tryz.prog 67 #[.pointer (some ⟨bc, 0, none⟩), .agg #[.int .i64 s, .int .i64 n, .string t, .slice an ns.length cn, .slice ak ks.length ck]] W fun e w' => NodeR W w' w.heap.size bc l p (.node s n t ns ks) e := by
  have HGA := Lib.hid (show W.grownBy (W.alloc (Obj.cells #[Value.int .i64 s, .int .i64 n, .string t, .slice an ns.length cn, .slice ak ks.length ck] 27)) none from grown_alloc (grown_refl _ _) _)
  have HEN := Lib.hid (enter_no (W.alloc (Obj.cells #[Value.int .i64 s, .int .i64 n, .string t, .slice an ns.length cn, .slice ak ks.length ck] 27)) bc l p (Blk.alloc hx.cnt _) hl hp hn)
  have HNO := Lib.hid (show ¬ (Parts (.node s n t ns ks) (l + 1) ∧ p + count (.node s n t ns ks) ≤ 16) from fun h => by
    obtain ⟨h1, h2⟩ := h
    rw [Parts] at h1
    rw [count] at h2
    have := h1.2.1
    omega)
  clear hx hn
  go_enter_defers Tryz.func67, Tryz.ntmps67
  go_wp2_with fail
  refine HEN.out.mono ?_
  rintro e w1 ⟨rfl, hc1, hg1⟩
  have HD := Lib.hid (show NodeR W w1 w.heap.size bc l p (.node s n t ns ks) (.returned (.tuple #[.nilIface, .iface 93 (.agg #[.int .i64 ((p : Int) + 1)])])) from
    ⟨_, _, rfl, grown_trans (grown_widen HGA.out) hg1, .inr ⟨⟨_, rfl⟩, HNO.out, l + 1, p + 1, by omega, by omega, by omega, hc1⟩⟩)
  clear hc1 hg1 HEN
  go_wp2
  refine ⟨_, results_tmp2 (t := 4) (u := 5) rfl _ _ _, ?_⟩
  exact HD.out

set_option maxRecDepth 100000 in
set_option maxHeartbeats 2000000 in
/-- parts that it may not have -/
theorem node_parts (w W : World) (bc l p : Nat) (hx : NCtx w W bc l p) (hl : l < 3) (hp : p < 16) (s n : Int) (t : ByteArray) (ns : List ByteArray) (ks : List VT) (an ak : Option Addr) (cn ck : Nat) (hno : ¬ HasOnly s n t ns.length ks.length) :
    Calls Tryz.prog 67 #[.pointer (some ⟨bc, 0, none⟩), .agg #[.int .i64 s, .int .i64 n, .string t, .slice an ns.length cn, .slice ak ks.length ck]] W fun e w' => NodeR W w' w.heap.size bc l p (.node s n t ns ks) e := by
  have HGA := Lib.hid (show W.grownBy (W.alloc (Obj.cells #[Value.int .i64 s, .int .i64 n, .string t, .slice an ns.length cn, .slice ak ks.length ck] 27)) none from grown_alloc (grown_refl _ _) _)
  have HBA := Lib.hid (Blk.new W 27 [.int .i64 s, .int .i64 n, .string t, .slice an ns.length cn, .slice ak ks.length ck])
  have HEN := Lib.hid (enter_yes (W.alloc (Obj.cells #[Value.int .i64 s, .int .i64 n, .string t, .slice an ns.length cn, .slice ak ks.length ck] 27)) bc l p (Blk.alloc hx.cnt _) hl hp)
  have HX := Lib.hid hx
  have HNO := Lib.hid hno
  have hbl : bc < W.heap.size := hx.cnt.lt
  clear hx hno
  go_enter_defers Tryz.func67, Tryz.ntmps67
  go_wp2_with fail
  refine HEN.out.mono ?_
  rintro e w1 ⟨rfl, hc1, hg1⟩
  have HB1 := Lib.hid (HBA.out.kept hg1 (by simp; omega))
  have HC1 := Lib.hid hc1
  have HG1 := Lib.hid (grown_trans (grown_widen HGA.out) hg1)
  have d0 : w1.cell? ⟨W.heap.size, 0, none⟩ = some (.int .i64 s) := HB1.out.cell rfl
  have d1 : w1.cell? ⟨W.heap.size, 1, none⟩ = some (.int .i64 n) := HB1.out.cell rfl
  have d2 : w1.cell? ⟨W.heap.size, 2, none⟩ = some (.string t) := HB1.out.cell rfl
  have d3 : w1.cell? ⟨W.heap.size, 3, none⟩ = some (.slice an ns.length cn) := HB1.out.cell rfl
  have d4 : w1.cell? ⟨W.heap.size, 4, none⟩ = some (.slice ak ks.length ck) := HB1.out.cell rfl
  have HCL := Lib.hid ((hasOnly_any w1 (HX.out.tab.kept HG1.out (fun q e => by cases e; have := HX.out.two; have := HX.out.le; omega)) s n t ns.length ks.length an ak cn ck).mono (R' := fun e w' => e = .returned (.bool false) ∧ w1.grownBy w' none) (fun e w' h => ⟨h.1.is_no HNO.out, h.2⟩))
  clear hc1 hg1 HEN
  go_wp2_with fail
  refine HCL.out.mono ?_
  rintro e w2 ⟨rfl, hg2⟩
  have HG2 := Lib.hid (grown_trans HG1.out (grown_widen hg2))
  have HC2 := Lib.hid (Blk.kept HC1.out hg2 (by simp))
  have HF := Lib.hid (fault_any w2 bc (l + 1) (p + 1) HC2.out)
  clear hg2 HCL d0 d1 d2 d3 d4
  go_wp2_with fail
  refine HF.out.mono ?_
  rintro e w3 ⟨rfl, hw⟩
  have hw := hw.symm
  subst hw
  go_wp2
  refine node_door _ _ HC2.out (by omega) rfl rfl fun w4 hc4 hg4 => ?_
  exact .bad (grown_trans HG2.out hg4) hl ⟨_, rfl⟩ (fun h => HNO.out (plain_has h.1)) l (p + 1) (Nat.le_refl _) (by omega) (by omega) hc4
end Go.Proofs.YtgmigloafcejdaaGreatDoor
