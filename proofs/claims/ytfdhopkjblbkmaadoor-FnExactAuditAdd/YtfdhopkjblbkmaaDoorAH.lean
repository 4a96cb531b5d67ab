/- A link added to a chain, by the program. -/
import Derived.Test.YtfdhopkjblbkmaaDoorAC
import Derived.Test.YtfdhopkjblbkmaaDoorAG
import Derived.BigQuiet
namespace Go.Proofs.YtfdhopkjblbkmaaDoor
open Go.RowKit

/-- the error of an entry that does not fit -/
def UnfC (w : World) (a : Addr) : Prop := w.cell? ⟨0, 0, none⟩ = some (.iface 149 (.pointer (some a)))
theorem UnfC.grown {w w' : World} {a : Addr} (h : UnfC w a) (hg : w.grownBy w' none) : UnfC w' a := hg.cell h (by simp)
/-- a link's cells -/
def linkC (n : Int) (sm ten wha det : ByteArray) (v : Value) : List Value := [.int .i64 n, .string sm, .string ten, .string wha, .string det, v]
/-- a link added, or not -/
def AddR (w : World) (a : Addr) (n : Nat) (sm ten wha det : ByteArray) (l : Value) (e : Ending) (w' : World) : Prop :=
  ((n < 200 ∧ EntOk ten wha det) ∧ ∃ g : Nat, e = .returned (.tuple #[.pointer (some ⟨g, 0, none⟩), .nilIface]) ∧ Blk w' g 58 (linkC ((n : Int) + 1) (sumE sm (n + 1) ten wha det) ten wha det l) ∧ w.heap.size ≤ g) ∨
  (¬ (n < 200 ∧ EntOk ten wha det) ∧ e = .returned (.tuple #[.pointer none, .iface 149 (.pointer (some a))]))

set_option maxRecDepth 100000 in
set_option maxHeartbeats 8000000 in
theorem iadd_any (w : World) (hT : Tabs w) (hP : Pow w) (a : Addr) (hU : UnfC w a) (B n : Nat) (sm ten wha det : ByteArray) (p0 : w.cell? ⟨B, 0, none⟩ = some (.int .i64 (n : Int))) (p1 : w.cell? ⟨B, 1, none⟩ = some (.string sm)) (hn : n ≤ 1048576) (h0 : sm.size ≤ 1048576) (h1 : ten.size ≤ 1048576) (h2 : wha.size ≤ 1048576) (h3 : det.size ≤ 1048576) :
    Calls Tryd.prog 23 #[.pointer (some ⟨B, 0, none⟩), .string ten, .string wha, .string det] w fun e w' => AddR w a n sm ten wha det (.pointer (some ⟨B, 0, none⟩)) e w' ∧ w.grownBy w' none := by
  have eU : w.cell? ⟨0, 0, none⟩ = some (.iface 149 (.pointer (some a))) := hU
  have HP0 := Lib.hid p0
  have HP1 := Lib.hid p1
  have HNX := Lib.hid (fun (V : World) (hV : w.grownBy V none) (he : EntOk ten wha det) => inext_any V (hT.grown hV) (hP.grown hV) sm n ten wha det hn (sum_small sm (n + 1) ten wha det (by omega) h0 he))
  have H1 := Lib.hid (inameOk_any w ten h1)
  have H2 := Lib.hid (inameOk_any w wha h2)
  have H3 := Lib.hid (idet_any w det h3)
  have HU := Lib.hid hU
  clear h0 h1 h2 h3 hT hP hU
  by_cases hn2 : (200 : Int) ≤ (n : Int)
  case pos =>
    have HN := Lib.hid (show ¬ (n < 200 ∧ EntOk ten wha det) from fun h => by omega)
    go_enter Tryd.func23, Tryd.ntmps23
    go_wp2
    go_quiet (fail)
    go_wp2
    go_ret2
    exact ⟨.inr ⟨HN.out, rfl⟩, by first | exact grown_refl _ _ | exact grown_drewN (grown_refl _ _) _⟩
  have hn3 : n < 200 := by omega
  have HN3 := Lib.hid hn3
  go_enter Tryd.func23, Tryd.ntmps23
  go_wp2_with fail
  refine H1.out.mono ?_
  rintro e wx ⟨⟨b1, rfl, hb1⟩, hw⟩
  have hw := hw.symm
  subst hw
  have K1 := Lib.hid hb1
  clear hb1
  cases b1
  case false =>
    have HN := Lib.hid (show ¬ (n < 200 ∧ EntOk ten wha det) from fun h => by have := K1.out.2 h.2.1; cases this)
    go_wp2
    go_quiet (fail)
    go_wp2
    go_ret2
    exact ⟨.inr ⟨HN.out, rfl⟩, by first | exact grown_refl _ _ | exact grown_drewN (grown_refl _ _) _⟩
  go_wp2_with fail
  refine H2.out.mono ?_
  rintro e wx ⟨⟨b2, rfl, hb2⟩, hw⟩
  have hw := hw.symm
  subst hw
  have K2 := Lib.hid hb2
  clear hb2
  cases b2
  case false =>
    have HN := Lib.hid (show ¬ (n < 200 ∧ EntOk ten wha det) from fun h => by have := K2.out.2 h.2.2.1; cases this)
    go_wp2
    go_quiet (fail)
    go_wp2
    go_ret2
    exact ⟨.inr ⟨HN.out, rfl⟩, by first | exact grown_refl _ _ | exact grown_drewN (grown_refl _ _) _⟩
  go_wp2_with fail
  refine H3.out.mono ?_
  rintro e w1 ⟨⟨b3, rfl, hb3⟩, hg1⟩
  have K3 := Lib.hid hb3
  have HG1 := Lib.hid hg1
  have eU1 : w1.cell? ⟨0, 0, none⟩ = some (.iface 149 (.pointer (some a))) := HU.out.grown hg1
  clear hb3 eU
  cases b3
  case false =>
    have HN := Lib.hid (show ¬ (n < 200 ∧ EntOk ten wha det) from fun h => by have := K3.out.2 h.2.2.2; cases this)
    clear hg1 p0 p1
    go_wp2
    go_quiet (fail)
    go_wp2
    go_ret2
    exact ⟨.inr ⟨HN.out, rfl⟩, by first | exact HG1.out | exact grown_drewN HG1.out _⟩
  have HEO := Lib.hid (show EntOk ten wha det from ⟨K1.out.1 (by first | trivial | rfl), K2.out.1 (by first | trivial | rfl), K3.out.1 (by first | trivial | rfl)⟩)
  have p0' : w1.cell? ⟨B, 0, none⟩ = some (.int .i64 (n : Int)) := hg1.cell HP0.out (by simp)
  have p1' : w1.cell? ⟨B, 1, none⟩ = some (.string sm) := hg1.cell HP1.out (by simp)
  clear p0 p1 hg1 eU1
  go_wp2_with fail
  refine (HNX.out w1 HG1.out HEO.out).mono ?_
  rintro e w2 ⟨rfl, hg2⟩
  obtain ⟨SE, hSE⟩ : ∃ x, sumE sm (n + 1) ten wha det = x := ⟨_, rfl⟩
  rw [hSE]
  have HSE := Lib.hid hSE
  have HG2 := Lib.hid (grown_trans HG1.out hg2)
  clear hg2 hSE p0' p1'
  go_wp2
  go_ret2
  exact ⟨.inl ⟨⟨HN3.out, HEO.out⟩, w2.heap.size, rfl, by rw [HSE.out]; exact Blk.new w2 58 _, HG2.out.size⟩, grown_alloc HG2.out _⟩
end Go.Proofs.YtfdhopkjblbkmaaDoor
