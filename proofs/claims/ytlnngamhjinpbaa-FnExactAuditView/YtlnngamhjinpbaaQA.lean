/- Entries marked. -/
import Derived.Test.YtlnngamhjinpbaaQ9
namespace Go.Proofs.Ytlnngamhjinpbaa
open Go.RowKit

/-- a block of so many cells, none frozen -/
def BkN (w : World) (g : Nat) (t : TypeId) (m : Nat) : Prop := ∃ L : List Value, L.length = m ∧ Blk w g t L
theorem BkN.set {w : World} {g m : Nat} {t : TypeId} (h : BkN w g t m) (j : Nat) (v : Value) : BkN (w.setCell ⟨g, j, none⟩ v) g t m := by
  obtain ⟨L, hl, hb⟩ := h
  exact ⟨_, by simpa using hl, hb.set j v⟩
theorem BkN.kept {w w' : World} {g m : Nat} {t : TypeId} {row : Option Nat} (h : BkN w g t m) (hg : w.grownBy w' row) (hne : some g ≠ row) : BkN w' g t m := by
  obtain ⟨L, hl, hb⟩ := h
  exact ⟨L, hl, hb.kept hg hne⟩
theorem BkN.at {w : World} {g m : Nat} {t : TypeId} (h : BkN w g t m) (j : Nat) (hj : j < m) : (∃ y, w.cell? ⟨g, j, none⟩ = some y) ∧ w.frozen? ⟨g, j, none⟩ = false := by
  obtain ⟨L, hl, hb⟩ := h
  exact ⟨⟨_, hb.cell (List.getElem?_eq_getElem (by omega))⟩, hb.frozen j⟩

set_option maxRecDepth 100000 in
set_option maxHeartbeats 4000000 in
theorem markEntries_any (w : World) (g n : Nat) (h : BkN w g 66 (n * 5)) (hn : n ≤ 1048576) (k : Nat) (hk : 0 < k) (hkb : k ≤ 1048576) :
    Calls Try.prog 23 #[.slice (some ⟨g, 0, none⟩) n n, .int .i64 (k : Int)] w fun e w' => e = .returned (.int .i64 ((k + n * 5 : Nat) : Int)) ∧ w.grownBy w' (some g) := by
  have HB0 := Lib.hid h
  clear h
  go_enter Try.func23, Try.ntmps23
  go_wp2
  go_loopw [1, 5] (fun kv i wr => ∃ j : Nat, j ≤ n ∧ kv = .int .i64 ((k + j * 5 : Nat) : Int) ∧ i = .int .i64 (j : Int) ∧ Hid (BkN wr g 66 (n * 5)) ∧ w.grownBy wr (some g)) (fun _ i _ => n - (intOf i).toNat)
  case atStart => exact ⟨0, Nat.zero_le _, by simp, rfl, HB0, grown_refl _ _⟩
  case round =>
    obtain ⟨j, hj, rfl, rfl, HB, hg⟩ := hrel
    have HG := Lib.hid hg
    clear hg
    by_cases hlt : j < n
    · obtain ⟨K, hK⟩ : ∃ K, K = k + j * 5 := ⟨_, rfl⟩
      have hjI : (j : Int) < n := by omega
      have hK1 : K + 5 = k + (j + 1) * 5 := by omega
      have hKb : K ≤ 1099511627776 := by omega
      have HMK := Lib.hid (fun (d : Nat) (hd : d ≤ 8) (W : World) => show Calls Try.prog 47 #[.int .i64 ((K : Int) + d)] W fun e w' => e = .returned (.string (MT (K + d))) ∧ W.grownBy w' none from by
        have := markText_any W (K + d) (by omega) (by omega)
        rw [show ((K + d : Nat) : Int) = (K : Int) + d from by omega] at this
        exact this)
      rw [← hK]
      clear hK
      obtain ⟨⟨y0, c0⟩, f0⟩ := HB.out.at (j * 5) (by omega)
      have HM1 := Lib.hid (show ∀ W : World, Calls Try.prog 47 #[.int .i64 ((K : Int) + 1)] W fun e w' => e = .returned (.string (MT (K + 1))) ∧ W.grownBy w' none from fun W => HMK.out 1 (by omega) W)
      go_wp2_with fail
      obtain ⟨s1, hs1⟩ : ∃ x, wr.setCell ⟨g, j * 5, none⟩ (.int .i64 (K : Int)) = x := ⟨_, rfl⟩
      have HB1 := Lib.hid (show BkN s1 g 66 (n * 5) from by rw [← hs1]; exact HB.out.set (j * 5) (.int .i64 (K : Int)))
      have HG1 := Lib.hid (show w.grownBy s1 (some g) from by rw [← hs1]; exact grown_set HG.out _ _)
      rw [hs1]
      clear hs1 c0 f0
      refine (HM1.out s1).mono ?_
      rintro e w1 ⟨rfl, hg1⟩
      have HC1 := Lib.hid (HB1.out.kept hg1 (by simp))
      have HH1 := Lib.hid (grown_trans HG1.out (grown_widen hg1))
      obtain ⟨⟨y1, c0⟩, f0⟩ := HC1.out.at (j * 5 + 1) (by omega)
      clear hg1
      have HM2 := Lib.hid (show ∀ W : World, Calls Try.prog 47 #[.int .i64 ((K : Int) + 1 + 1)] W fun e w' => e = .returned (.string (MT (K + 2))) ∧ W.grownBy w' none from fun W => by
        have := HMK.out 2 (by omega) W
        rw [show ((K : Int) + ((2 : Nat) : Int)) = (K : Int) + 1 + 1 from by omega] at this
        exact this)
      generalize MT (K + 1) = X1
      go_wp2_with fail
      obtain ⟨s2, hs2⟩ : ∃ x, w1.setCell ⟨g, j * 5 + 1, none⟩ (.string X1) = x := ⟨_, rfl⟩
      have HB2 := Lib.hid (show BkN s2 g 66 (n * 5) from by rw [← hs2]; exact HC1.out.set (j * 5 + 1) (.string X1))
      have HG2 := Lib.hid (show w.grownBy s2 (some g) from by rw [← hs2]; exact grown_set HH1.out _ _)
      rw [hs2]
      clear hs2 c0 f0
      refine (HM2.out s2).mono ?_
      rintro e w2 ⟨rfl, hg2⟩
      have HC2 := Lib.hid (HB2.out.kept hg2 (by simp))
      have HH2 := Lib.hid (grown_trans HG2.out (grown_widen hg2))
      obtain ⟨⟨y2, c0⟩, f0⟩ := HC2.out.at (j * 5 + 2) (by omega)
      clear hg2
      have HM3 := Lib.hid (show ∀ W : World, Calls Try.prog 47 #[.int .i64 ((K : Int) + 1 + 1 + 1)] W fun e w' => e = .returned (.string (MT (K + 3))) ∧ W.grownBy w' none from fun W => by
        have := HMK.out 3 (by omega) W
        rw [show ((K : Int) + ((3 : Nat) : Int)) = (K : Int) + 1 + 1 + 1 from by omega] at this
        exact this)
      generalize MT (K + 2) = X2
      go_wp2_with fail
      obtain ⟨s3, hs3⟩ : ∃ x, w2.setCell ⟨g, j * 5 + 2, none⟩ (.string X2) = x := ⟨_, rfl⟩
      have HB3 := Lib.hid (show BkN s3 g 66 (n * 5) from by rw [← hs3]; exact HC2.out.set (j * 5 + 2) (.string X2))
      have HG3 := Lib.hid (show w.grownBy s3 (some g) from by rw [← hs3]; exact grown_set HH2.out _ _)
      rw [hs3]
      clear hs3 c0 f0
      refine (HM3.out s3).mono ?_
      rintro e w3 ⟨rfl, hg3⟩
      have HC3 := Lib.hid (HB3.out.kept hg3 (by simp))
      have HH3 := Lib.hid (grown_trans HG3.out (grown_widen hg3))
      obtain ⟨⟨y3, c0⟩, f0⟩ := HC3.out.at (j * 5 + 3) (by omega)
      clear hg3
      have HM4 := Lib.hid (show ∀ W : World, Calls Try.prog 47 #[.int .i64 ((K : Int) + 1 + 1 + 1 + 1)] W fun e w' => e = .returned (.string (MT (K + 4))) ∧ W.grownBy w' none from fun W => by
        have := HMK.out 4 (by omega) W
        rw [show ((K : Int) + ((4 : Nat) : Int)) = (K : Int) + 1 + 1 + 1 + 1 from by omega] at this
        exact this)
      generalize MT (K + 3) = X3
      go_wp2_with fail
      obtain ⟨s4, hs4⟩ : ∃ x, w3.setCell ⟨g, j * 5 + 3, none⟩ (.string X3) = x := ⟨_, rfl⟩
      have HB4 := Lib.hid (show BkN s4 g 66 (n * 5) from by rw [← hs4]; exact HC3.out.set (j * 5 + 3) (.string X3))
      have HG4 := Lib.hid (show w.grownBy s4 (some g) from by rw [← hs4]; exact grown_set HH3.out _ _)
      rw [hs4]
      clear hs4 c0 f0
      refine (HM4.out s4).mono ?_
      rintro e w4 ⟨rfl, hg4⟩
      have HC4 := Lib.hid (HB4.out.kept hg4 (by simp))
      have HH4 := Lib.hid (grown_trans HG4.out (grown_widen hg4))
      obtain ⟨⟨y4, c0⟩, f0⟩ := HC4.out.at (j * 5 + 4) (by omega)
      clear hg4
      generalize MT (K + 4) = X4
      go_wp2
      go_roundw
      case rel =>
        refine ⟨j + 1, by omega, ?_, by go_num, Lib.hid (HC4.out.set _ _), grown_set HH4.out _ _⟩
        rw [← hK1]
        go_num
      case measure => simp [intOf]; omega
    · obtain rfl : j = n := by omega
      go_wp2
      go_ret
      exact ⟨rfl, HG.out⟩
end Go.Proofs.Ytlnngamhjinpbaa
