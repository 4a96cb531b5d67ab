/- A link added to a chain, by the program. -/
import Derived.Test.YtdelijobaebfnaaDoorAC
import Derived.Test.YtdelijobaebfnaaDoorAG
import Derived.BigQuiet
namespace Go.Proofs.YtdelijobaebfnaaDoor
open Go.RowKit

/-- the error of an entry that does not fit -/
def UnfC (w : World) (a : Addr) : Prop := w.cell? ⟨0, 0, none⟩ = some (.iface 158 (.pointer (some a)))
theorem UnfC.grown {w w' : World} {a : Addr} (h : UnfC w a) (hg : w.grownBy w' none) : UnfC w' a := hg.cell h (by simp)
/-- a link's cells -/
def linkC (n : Int) (sm ten wha det : ByteArray) (v : Value) : List Value := [.int .i64 n, .string sm, .string ten, .string wha, .string det, v]
/-- a link added, or not -/
def AddR (w : World) (a : Addr) (n : Nat) (sm ten wha det : ByteArray) (l : Value) (e : Ending) (w' : World) : Prop :=
  ((n < 200 ∧ EntOk ten wha det) ∧ ∃ g : Nat, e = .returned (.tuple #[.pointer (some ⟨g, 0, none⟩), .nilIface]) ∧ Blk w' g 73 (linkC ((n : Int) + 1) (sumE sm (n + 1) ten wha det) ten wha det l) ∧ w.heap.size ≤ g) ∨
  (¬ (n < 200 ∧ EntOk ten wha det) ∧ e = .returned (.tuple #[.pointer none, .iface 158 (.pointer (some a))]))

set_option maxRecDepth 100000 in
set_option maxHeartbeats 8000000 in
theorem iadd_any (w : World) (hT : Tabs w) (hP : Pow w) (a : Addr) (hU : UnfC w a) (B n : Nat) (sm ten wha det : ByteArray) (p0 : w.cell? ⟨B, 0, none⟩ = some (.int .i64 (n : Int))) (p1 : w.cell? ⟨B, 1, none⟩ = some (.string sm)) (hn : n ≤ 1048576) (h0 : sm.size ≤ 1048576) (h1 : ten.size ≤ 1048576) (h2 : wha.size ≤ 1048576) (h3 : det.size ≤ 1048576) :
    Calls Tryd.prog 37 #[.pointer (some ⟨B, 0, none⟩), .string ten, .string wha, .string det] w fun e w' => AddR w a n sm ten wha det (.pointer (some ⟨B, 0, none⟩)) e w' ∧ w.grownBy w' none := by
  have eU : w.cell? ⟨0, 0, none⟩ = some (.iface 158 (.pointer (some a))) := hU
  have HP0 := Lib.hid p0
  have HP1 := Lib.hid p1
  have HNX := Lib.hid (fun (V : World) (hV : w.grownBy V none) (he : EntOk ten wha det) => inext_any V (hT.grown hV) (hP.grown hV) sm n ten wha det hn (sum_small sm (n + 1) ten wha det (by omega) h0 he))
  have H1 := Lib.hid (inameOk_any w ten h1)
  have H2 := Lib.hid (inameOk_any w wha h2)
  have H3 := Lib.hid (idet_any w det h3)
  have HU := Lib.hid hU
  clear h0 h1 h2 h3 hT hP hU
  by_cases hn2 : (200 : Int) ≤ (n : Int)
  case pos =>
    have HN := Lib.hid (show ¬ (n < 200 ∧ EntOk ten wha det) from fun h => by omega)
    go_enter Tryd.func37, Tryd.ntmps37
    go_wp2
    go_quiet (fail)
    go_wp2
    go_ret2
    exact ⟨.inr ⟨HN.out, rfl⟩, by first | exact grown_refl _ _ | exact grown_drewN (grown_refl _ _) _⟩
  have hn3 : n < 200 := by omega
  have HN3 := Lib.hid hn3
  go_enter Tryd.func37, Tryd.ntmps37
  go_wp2_with fail
  refine H1.out.mono ?_
  rintro e wx ⟨⟨b1, rfl, hb1⟩, hw⟩
  have hw := hw.symm
  subst hw
  have K1 := Lib.hid hb1
  clear hb1
  cases b1
  case false =>
    have HN := Lib.hid (show ¬ (n < 200 ∧ EntOk ten wha det) from fun h => by have := K1.out.2 h.2.1; cases this)
    go_wp2
    go_quiet (fail)
    go_wp2
    go_ret2
    exact ⟨.inr ⟨HN.out, rfl⟩, by first | exact grown_refl _ _ | exact grown_drewN (grown_refl _ _) _⟩
  go_wp2_with fail
  refine H2.out.mono ?_
  rintro e wx ⟨⟨b2, rfl, hb2⟩, hw⟩
  have hw := hw.symm
  subst hw
  have K2 := Lib.hid hb2
  clear hb2
  cases b2
  case false =>
    have HN := Lib.hid (show ¬ (n < 200 ∧ EntOk ten wha det) from fun h => by have := K2.out.2 h.2.2.1; cases this)
    go_wp2
    go_quiet (fail)
    go_wp2
    go_ret2
    exact ⟨.inr ⟨HN.out, rfl⟩, by first | exact grown_refl _ _ | exact grown_drewN (grown_refl _ _) _⟩
  go_wp2_with fail
  refine H3.out.mono ?_
  rintro e w1 ⟨⟨b3, rfl, hb3⟩, hg1⟩
  have K3 := Lib.hid hb3
  have HG1 := Lib.hid hg1
  have eU1 : w1.cell? ⟨0, 0, none⟩ = some (.iface 158 (.pointer (some a))) := HU.out.grown hg1
  clear hb3 eU
  cases b3
  case false =>
    have HN := Lib.hid (show ¬ (n < 200 ∧ EntOk ten wha det) from fun h => by have := K3.out.2 h.2.2.2; cases this)
    clear hg1 p0 p1
    go_wp2
    go_quiet (fail)
    go_wp2
    go_ret2
    exact ⟨.inr ⟨HN.out, rfl⟩, by first | exact HG1.out | exact grown_drewN HG1.out _⟩
  have HEO := Lib.hid (show EntOk ten wha det from ⟨K1.out.1 (by first | trivial | rfl), K2.out.1 (by first | trivial | rfl), K3.out.1 (by first | trivial | rfl)⟩)
  have p0' : w1.cell? ⟨B, 0, none⟩ = some (.int .i64 (n : Int)) := hg1.cell HP0.out (by simp)
  have p1' : w1.cell? ⟨B, 1, none⟩ = some (.string sm) := hg1.cell HP1.out (by simp)
  clear p0 p1 hg1 eU1
  go_wp2_with fail
  refine (HNX.out w1 HG1.out HEO.out).mono ?_
  rintro e w2 ⟨rfl, hg2⟩
  obtain ⟨SE, hSE⟩ : ∃ x, sumE sm (n + 1) ten wha det = x := ⟨_, rfl⟩
  rw [hSE]
  have HSE := Lib.hid hSE
  have HG2 := Lib.hid (grown_trans HG1.out hg2)
  clear hg2 hSE p0' p1'
  go_wp2
  go_ret2
  exact ⟨.inl ⟨⟨HN3.out, HEO.out⟩, w2.heap.size, rfl, by rw [HSE.out]; exact Blk.new w2 73 _, HG2.out.size⟩, grown_alloc HG2.out _⟩
end Go.Proofs.YtdelijobaebfnaaDoor
namespace Go.Proofs.YtdelijobaebfnaaDoor
open Go.RowKit

/-- that an entry goes behind n others, of which the last has the sum sm -/
def NextP (n : Nat) (sm : ByteArray) (u : AE) : Prop := n < 200 ∧ u.seq = (n : Int) + 1 ∧ EntOk u.ten u.wha u.det ∧ u.sum = sumE sm (n + 1) u.ten u.wha u.det
def EntR (w : World) (a : Addr) (n : Nat) (sm : ByteArray) (u : AE) (l : Value) (e : Ending) (w' : World) : Prop :=
  (NextP n sm u ∧ ∃ g : Nat, e = .returned (.tuple #[.pointer (some ⟨g, 0, none⟩), .nilIface]) ∧ Blk w' g 73 (linkC u.seq u.sum u.ten u.wha u.det l) ∧ w.heap.size ≤ g) ∨
  (¬ NextP n sm u ∧ e = .returned (.tuple #[.pointer none, .iface 158 (.pointer (some a))]))

set_option maxRecDepth 100000 in
set_option maxHeartbeats 16000000 in
theorem ientry_any (w : World) (hT : Tabs w) (hP : Pow w) (a : Addr) (hU : UnfC w a) (B n : Nat) (sm : ByteArray) (u : AE) (p0 : w.cell? ⟨B, 0, none⟩ = some (.int .i64 (n : Int))) (p1 : w.cell? ⟨B, 1, none⟩ = some (.string sm)) (hn : n ≤ 1048576) (h0 : sm.size ≤ 1048576) (h1 : u.ten.size ≤ 1048576) (h2 : u.wha.size ≤ 1048576) (h3 : u.det.size ≤ 1048576) :
    Calls Tryd.prog 44 #[.pointer (some ⟨B, 0, none⟩), .agg #[.int .i64 u.seq, .string u.ten, .string u.wha, .string u.det, .string u.sum]] w fun e w' => EntR w a n sm u (.pointer (some ⟨B, 0, none⟩)) e w' ∧ w.grownBy w' none := by
  obtain ⟨sq, ten, wha, det, es⟩ := u
  simp only at h1 h2 h3 ⊢
  obtain ⟨W, hW⟩ : ∃ W, w.alloc (Obj.cells #[Value.int .i64 sq, .string ten, .string wha, .string det, .string es] 28) = W := ⟨_, rfl⟩
  obtain ⟨X, hX⟩ : ∃ x, w.heap.size = x := ⟨_, rfl⟩
  have hg := (show w.grownBy W none from by rw [← hW]; exact grown_alloc (grown_refl _ _) _)
  have HG := Lib.hid hg
  have HXX := Lib.hid (show Blk W X 28 [.int .i64 sq, .string ten, .string wha, .string det, .string es] from by rw [← hW, ← hX]; exact Blk.new w 28 _)
  have HAD := Lib.hid (iadd_any W (hT.grown hg) (hP.grown hg) a (hU.grown hg) B n sm ten wha det (hg.cell p0 (by simp)) (hg.cell p1 (by simp)) hn h0 h1 h2 h3)
  have HU := Lib.hid hU
  have HW := Lib.hid hW
  have HXE := Lib.hid hX
  have HWS := Lib.hid (show w.heap.size ≤ W.heap.size from hg.size)
  clear hW hX hg hT hP hU h0 h1 h2 h3 p0 p1
  go_enter Tryd.func44, Tryd.ntmps44
  go_wp2_with fail
  rw [HW.out, HXE.out]
  refine HAD.out.mono ?_
  rintro e w1 ⟨hr, hg1⟩
  have HG1 := Lib.hid (grown_trans HG.out hg1)
  have HX1 := Lib.hid (HXX.out.kept hg1 (by simp))
  have eU : w1.cell? ⟨0, 0, none⟩ = some (.iface 158 (.pointer (some a))) := HU.out.grown HG1.out
  clear hg1 HAD HXX
  rcases hr with ⟨hok, g, rfl, hb, hgl⟩ | ⟨hno, rfl⟩
  case inr =>
    have HN := Lib.hid (show ¬ NextP n sm ⟨sq, ten, wha, det, es⟩ from fun h => hno ⟨h.1, h.2.2.1⟩)
    clear hno eU
    go_wp2
    go_quiet (fail)
    go_wp2
    go_ret2
    exact ⟨.inr ⟨HN.out, rfl⟩, grown_drewN HG1.out _⟩
  obtain ⟨SE, hSE⟩ : ∃ x, sumE sm (n + 1) ten wha det = x := ⟨_, rfl⟩
  rw [hSE] at hb
  have HSE := Lib.hid hSE
  have HOK := Lib.hid hok
  have HB := Lib.hid hb
  have HGL := Lib.hid (Nat.le_trans HWS.out hgl)
  have q0 : w1.cell? ⟨g, 0, none⟩ = some (.int .i64 ((n : Int) + 1)) := hb.cell rfl
  have q1 : w1.cell? ⟨g, 1, none⟩ = some (.string SE) := hb.cell rfl
  have x0 : w1.cell? ⟨X, 0, none⟩ = some (.int .i64 sq) := HX1.out.cell rfl
  have x4 : w1.cell? ⟨X, 4, none⟩ = some (.string es) := HX1.out.cell rfl
  clear hSE hok hb hgl
  by_cases hs : (n : Int) + 1 = sq
  case neg =>
    have hsb : (((n : Int) + 1) == sq) = false := by rw [beq_eq_false_iff_ne]; exact hs
    have HN := Lib.hid (show ¬ NextP n sm ⟨sq, ten, wha, det, es⟩ from fun h => hs h.2.1.symm)
    go_wp2
    go_quiet (fail)
    go_wp2
    go_quiet (fail)
    go_wp2
    go_ret2
    exact ⟨.inr ⟨HN.out, rfl⟩, grown_drewN (grown_drewN HG1.out _) _⟩
  subst hs
  by_cases hsm : SE = es
  case neg =>
    have hsmc : ¬ SE.toList = es.toList := fun e => hsm (ByteArray.ext (Array.ext' (by rw [← ByteArray.toList_eq, ← ByteArray.toList_eq]; exact e)))
    have hsmb : (SE.toList == es.toList) = false := by rw [beq_eq_false_iff_ne]; exact hsmc
    have HN := Lib.hid (show ¬ NextP n sm ⟨(n : Int) + 1, ten, wha, det, es⟩ from fun h => hsm (HSE.out.symm.trans h.2.2.2.symm))
    go_wp2
    go_quiet (fail)
    go_wp2
    go_quiet (fail)
    go_wp2
    go_ret2
    exact ⟨.inr ⟨HN.out, rfl⟩, grown_drewN (grown_drewN HG1.out _) _⟩
  subst hsm
  have HY := Lib.hid (show NextP n sm ⟨(n : Int) + 1, ten, wha, det, SE⟩ from ⟨HOK.out.1, rfl, HOK.out.2, HSE.out.symm⟩)
  clear eU
  go_wp2
  go_quiet (fail)
  go_wp2
  go_ret2
  exact ⟨.inl ⟨HY.out, g, rfl, HB.out.drewN _, HGL.out⟩, grown_drewN HG1.out _⟩
end Go.Proofs.YtdelijobaebfnaaDoor
