/- Entries marked, and held: what stands in each cell. -/
import Derived.Test.YtfdhopkjblbkmaaDoorAR
import Derived.Test.YtfdhopkjblbkmaaDoorP2
namespace Go.Proofs.YtfdhopkjblbkmaaDoor
open Go.RowKit

/-- the cells of marked entries, from the number k on -/
def mkE (k : Nat) : Nat → List Value
  | 0 => []
  | j + 1 => mkE k j ++ [.int .i64 ((k + j * 5 : Nat) : Int), .string (MT (k + j * 5 + 1)), .string (MT (k + j * 5 + 2)), .string (MT (k + j * 5 + 3)), .string (MT (k + j * 5 + 4))]
theorem mkE_len (k : Nat) : ∀ n, (mkE k n).length = n * 5
  | 0 => rfl
  | n + 1 => by simp [mkE, mkE_len k n]; omega
theorem mkE_get (k : Nat) : ∀ (n j : Nat), j < n → (mkE k n)[j * 5]? = some (.int .i64 ((k + j * 5 : Nat) : Int)) ∧ (mkE k n)[j * 5 + 1]? = some (.string (MT (k + j * 5 + 1))) ∧ (mkE k n)[j * 5 + 2]? = some (.string (MT (k + j * 5 + 2))) ∧ (mkE k n)[j * 5 + 3]? = some (.string (MT (k + j * 5 + 3))) ∧ (mkE k n)[j * 5 + 4]? = some (.string (MT (k + j * 5 + 4)))
  | 0, _, h => by omega
  | n + 1, j, h => by
    have hl := mkE_len k n
    by_cases hj : j < n
    · have := mkE_get k n j hj
      unfold mkE
      rw [List.getElem?_append_left (by omega), List.getElem?_append_left (by omega), List.getElem?_append_left (by omega), List.getElem?_append_left (by omega), List.getElem?_append_left (by omega)]
      exact this
    · obtain rfl : j = n := by omega
      unfold mkE
      rw [List.getElem?_append_right (by omega), List.getElem?_append_right (by omega), List.getElem?_append_right (by omega), List.getElem?_append_right (by omega), List.getElem?_append_right (by omega), hl]
      simp
theorem mkE_step (k j : Nat) (L : List Value) (hL : j * 5 + 5 ≤ L.length) : (((((mkE k j ++ L.drop (j * 5)).set (j * 5) (.int .i64 ((k + j * 5 : Nat) : Int))).set (j * 5 + 1) (.string (MT (k + j * 5 + 1)))).set (j * 5 + 2) (.string (MT (k + j * 5 + 2)))).set (j * 5 + 3) (.string (MT (k + j * 5 + 3)))).set (j * 5 + 4) (.string (MT (k + j * 5 + 4))) = mkE k (j + 1) ++ L.drop ((j + 1) * 5) := by
  have hl := mkE_len k j
  obtain ⟨a, b, c, d, e, hd⟩ : ∃ a b c d e, L.drop (j * 5) = [a, b, c, d, e] ++ L.drop ((j + 1) * 5) := by
    have h0 := List.drop_eq_getElem_cons (l := L) (i := j * 5) (by omega)
    have h1 := List.drop_eq_getElem_cons (l := L) (i := j * 5 + 1) (by omega)
    have h2 := List.drop_eq_getElem_cons (l := L) (i := j * 5 + 2) (by omega)
    have h3 := List.drop_eq_getElem_cons (l := L) (i := j * 5 + 3) (by omega)
    have h4 := List.drop_eq_getElem_cons (l := L) (i := j * 5 + 4) (by omega)
    refine ⟨L[j * 5]'(by omega), L[j * 5 + 1]'(by omega), L[j * 5 + 2]'(by omega), L[j * 5 + 3]'(by omega), L[j * 5 + 4]'(by omega), ?_⟩
    rw [h0, h1, h2, h3, h4, show (j + 1) * 5 = j * 5 + 4 + 1 from by omega]
    rfl
  rw [hd]
  simp [hl, mkE]
theorem blk_at {w : World} {g : Nat} {t : TypeId} {L : List Value} (h : Blk w g t L) (j : Nat) (hj : j < L.length) : (∃ y, w.cell? ⟨g, j, none⟩ = some y) ∧ w.frozen? ⟨g, j, none⟩ = false := ⟨⟨_, h.cell (List.getElem?_eq_getElem hj)⟩, h.frozen j⟩

set_option maxRecDepth 100000 in
set_option maxHeartbeats 8000000 in
theorem markE_any (w : World) (g n : Nat) (L : List Value) (h : Blk w g 37 L) (hL : L.length = n * 5) (hn : n ≤ 1048576) (k : Nat) (hk : 0 < k) (hkb : k ≤ 1048576) :
    Calls Tryd.prog 11 #[.slice (some ⟨g, 0, none⟩) n n, .int .i64 (k : Int)] w fun e w' => e = .returned (.int .i64 ((k + n * 5 : Nat) : Int)) ∧ Blk w' g 37 (mkE k n) ∧ w.grownBy w' (some g) := by
  have HB0 := Lib.hid h
  have HLL := Lib.hid hL
  clear h
  go_enter Tryd.func11, Tryd.ntmps11
  go_wp2
  go_loopw [1, 5] (fun kv i wr => ∃ j : Nat, j ≤ n ∧ kv = .int .i64 ((k + j * 5 : Nat) : Int) ∧ i = .int .i64 (j : Int) ∧ Hid (Blk wr g 37 (mkE k j ++ L.drop (j * 5))) ∧ w.grownBy wr (some g)) (fun _ i _ => n - (intOf i).toNat)
  case atStart => exact ⟨0, Nat.zero_le _, by simp, rfl, Lib.hid (by simpa [mkE] using HB0.out), grown_refl _ _⟩
  case round =>
    obtain ⟨j, hj, rfl, rfl, HB, hg⟩ := hrel
    have HG := Lib.hid hg
    clear hg
    by_cases hlt : j < n
    · have HST := Lib.hid (mkE_step k j L (by have := HLL.out; omega))
      obtain ⟨L0, hL0⟩ : ∃ x, mkE k j ++ L.drop (j * 5) = x := ⟨_, rfl⟩
      have hlen : L0.length = n * 5 := by rw [← hL0, List.length_append, mkE_len, List.length_drop]; have := HLL.out; omega
      have HLE := Lib.hid hlen
      have HBA := Lib.hid (show Blk wr g 37 L0 from by rw [← hL0]; exact HB.out)
      obtain ⟨LF, hLF⟩ : ∃ x, mkE k (j + 1) ++ L.drop ((j + 1) * 5) = x := ⟨_, rfl⟩
      rw [hL0, hLF] at HST
      have HLF := Lib.hid hLF
      obtain ⟨K, hK⟩ : ∃ K, K = k + j * 5 := ⟨_, rfl⟩
      have hjI : (j : Int) < n := by omega
      have hK1 : K + 5 = k + (j + 1) * 5 := by omega
      have hKb : K ≤ 1099511627776 := by omega
      have HMK := Lib.hid (fun (d : Nat) (hd : d ≤ 8) (W : World) => show Calls Tryd.prog 26 #[.int .i64 ((K : Int) + d)] W fun e w' => e = .returned (.string (MT (K + d))) ∧ W.grownBy w' none from by
        have := markText_any W (K + d) (by omega) (by omega)
        rw [show ((K + d : Nat) : Int) = (K : Int) + d from by omega] at this
        exact this)
      rw [← hK] at HST
      rw [← hK]
      clear hK hL0 hLF hlen HB
      obtain ⟨⟨y0, c0⟩, f0⟩ := blk_at HBA.out (j * 5) (by have := HLE.out; omega)
      have HM1 := Lib.hid (show ∀ W : World, Calls Tryd.prog 26 #[.int .i64 ((K : Int) + 1)] W fun e w' => e = .returned (.string (MT (K + 1))) ∧ W.grownBy w' none from fun W => HMK.out 1 (by omega) W)
      go_wp2_with fail
      obtain ⟨s1, hs1⟩ : ∃ x, wr.setCell ⟨g, j * 5, none⟩ (.int .i64 (K : Int)) = x := ⟨_, rfl⟩
      have HB1 := Lib.hid (show Blk s1 g 37 (L0.set (j * 5) (.int .i64 (K : Int))) from by rw [← hs1]; exact HBA.out.set (j * 5) (.int .i64 (K : Int)))
      have HG1 := Lib.hid (show w.grownBy s1 (some g) from by rw [← hs1]; exact grown_set HG.out _ _)
      rw [hs1]
      clear hs1 c0 f0
      refine (HM1.out s1).mono ?_
      rintro e w1 ⟨rfl, hg1⟩
      have HC1 := Lib.hid (HB1.out.kept hg1 (by simp))
      have HH1 := Lib.hid (grown_trans HG1.out (grown_widen hg1))
      obtain ⟨⟨y1, c0⟩, f0⟩ := blk_at HC1.out (j * 5 + 1) (by simp; have := HLE.out; omega)
      clear hg1
      have HM2 := Lib.hid (show ∀ W : World, Calls Tryd.prog 26 #[.int .i64 ((K : Int) + 1 + 1)] W fun e w' => e = .returned (.string (MT (K + 2))) ∧ W.grownBy w' none from fun W => by
        have := HMK.out 2 (by omega) W
        rw [show ((K : Int) + ((2 : Nat) : Int)) = (K : Int) + 1 + 1 from by omega] at this
        exact this)
      generalize MT (K + 1) = X1 at HST ⊢
      go_wp2_with fail
      obtain ⟨s2, hs2⟩ : ∃ x, w1.setCell ⟨g, j * 5 + 1, none⟩ (.string X1) = x := ⟨_, rfl⟩
      have HB2 := Lib.hid (show Blk s2 g 37 ((L0.set (j * 5) (.int .i64 (K : Int))).set (j * 5 + 1) (.string X1)) from by rw [← hs2]; exact HC1.out.set (j * 5 + 1) (.string X1))
      have HG2 := Lib.hid (show w.grownBy s2 (some g) from by rw [← hs2]; exact grown_set HH1.out _ _)
      rw [hs2]
      clear hs2 c0 f0
      refine (HM2.out s2).mono ?_
      rintro e w2 ⟨rfl, hg2⟩
      have HC2 := Lib.hid (HB2.out.kept hg2 (by simp))
      have HH2 := Lib.hid (grown_trans HG2.out (grown_widen hg2))
      obtain ⟨⟨y2, c0⟩, f0⟩ := blk_at HC2.out (j * 5 + 2) (by simp; have := HLE.out; omega)
      clear hg2
      have HM3 := Lib.hid (show ∀ W : World, Calls Tryd.prog 26 #[.int .i64 ((K : Int) + 1 + 1 + 1)] W fun e w' => e = .returned (.string (MT (K + 3))) ∧ W.grownBy w' none from fun W => by
        have := HMK.out 3 (by omega) W
        rw [show ((K : Int) + ((3 : Nat) : Int)) = (K : Int) + 1 + 1 + 1 from by omega] at this
        exact this)
      generalize MT (K + 2) = X2 at HST ⊢
      go_wp2_with fail
      obtain ⟨s3, hs3⟩ : ∃ x, w2.setCell ⟨g, j * 5 + 2, none⟩ (.string X2) = x := ⟨_, rfl⟩
      have HB3 := Lib.hid (show Blk s3 g 37 (((L0.set (j * 5) (.int .i64 (K : Int))).set (j * 5 + 1) (.string X1)).set (j * 5 + 2) (.string X2)) from by rw [← hs3]; exact HC2.out.set (j * 5 + 2) (.string X2))
      have HG3 := Lib.hid (show w.grownBy s3 (some g) from by rw [← hs3]; exact grown_set HH2.out _ _)
      rw [hs3]
      clear hs3 c0 f0
      refine (HM3.out s3).mono ?_
      rintro e w3 ⟨rfl, hg3⟩
      have HC3 := Lib.hid (HB3.out.kept hg3 (by simp))
      have HH3 := Lib.hid (grown_trans HG3.out (grown_widen hg3))
      obtain ⟨⟨y3, c0⟩, f0⟩ := blk_at HC3.out (j * 5 + 3) (by simp; have := HLE.out; omega)
      clear hg3
      have HM4 := Lib.hid (show ∀ W : World, Calls Tryd.prog 26 #[.int .i64 ((K : Int) + 1 + 1 + 1 + 1)] W fun e w' => e = .returned (.string (MT (K + 4))) ∧ W.grownBy w' none from fun W => by
        have := HMK.out 4 (by omega) W
        rw [show ((K : Int) + ((4 : Nat) : Int)) = (K : Int) + 1 + 1 + 1 + 1 from by omega] at this
        exact this)
      generalize MT (K + 3) = X3 at HST ⊢
      go_wp2_with fail
      obtain ⟨s4, hs4⟩ : ∃ x, w3.setCell ⟨g, j * 5 + 3, none⟩ (.string X3) = x := ⟨_, rfl⟩
      have HB4 := Lib.hid (show Blk s4 g 37 ((((L0.set (j * 5) (.int .i64 (K : Int))).set (j * 5 + 1) (.string X1)).set (j * 5 + 2) (.string X2)).set (j * 5 + 3) (.string X3)) from by rw [← hs4]; exact HC3.out.set (j * 5 + 3) (.string X3))
      have HG4 := Lib.hid (show w.grownBy s4 (some g) from by rw [← hs4]; exact grown_set HH3.out _ _)
      rw [hs4]
      clear hs4 c0 f0
      refine (HM4.out s4).mono ?_
      rintro e w4 ⟨rfl, hg4⟩
      have HC4 := Lib.hid (HB4.out.kept hg4 (by simp))
      have HH4 := Lib.hid (grown_trans HG4.out (grown_widen hg4))
      obtain ⟨⟨y4, c0⟩, f0⟩ := blk_at HC4.out (j * 5 + 4) (by simp; have := HLE.out; omega)
      clear hg4
      generalize MT (K + 4) = X4 at HST ⊢
      have HBF := Lib.hid (show Blk (w4.setCell ⟨g, j * 5 + 4, none⟩ (.string X4)) g 37 (mkE k (j + 1) ++ L.drop ((j + 1) * 5)) from by
        rw [HLF.out, ← HST.out]
        exact HC4.out.set (j * 5 + 4) (.string X4))
      go_wp2
      go_roundw
      case rel =>
        refine ⟨j + 1, by omega, ?_, by go_num, HBF, grown_set HH4.out _ _⟩
        rw [← hK1]
        go_num
      case measure => simp [intOf]; omega
    · obtain rfl : j = n := by omega
      have HBF := Lib.hid (show Blk wr g 37 (mkE k j) from by
        have := HB.out
        rw [List.drop_of_length_le (by have := HLL.out; omega), List.append_nil] at this
        exact this)
      go_wp2
      go_ret
      exact ⟨rfl, HBF.out, HG.out⟩

set_option maxRecDepth 100000 in
set_option maxHeartbeats 16000000 in
theorem heldE_any (w : World) (g n : Nat) (k : Nat) (h : Blk w g 37 (mkE k n)) (hn : n ≤ 1048576) (hk : 0 < k) (hkb : k ≤ 1048576) :
    Calls Tryd.prog 12 #[.slice (some ⟨g, 0, none⟩) n n, .int .i64 (k : Int)] w fun e w' => e = .returned (.int .i64 ((k + n * 5 : Nat) : Int)) ∧ w.grownBy w' none := by
  have HB0 := Lib.hid h
  clear h
  go_enter Tryd.func12, Tryd.ntmps12
  go_wp2
  go_loopw [1, 5] (fun kv i wr => ∃ j : Nat, j ≤ n ∧ kv = .int .i64 ((k + j * 5 : Nat) : Int) ∧ i = .int .i64 (j : Int) ∧ w.grownBy wr none) (fun _ i _ => n - (intOf i).toNat)
  case atStart => exact ⟨0, Nat.zero_le _, by simp, rfl, grown_refl _ _⟩
  case round =>
    obtain ⟨j, hj, rfl, rfl, hg⟩ := hrel
    have HG := Lib.hid hg
    by_cases hlt : j < n
    · obtain ⟨d0, d1, d2, d3, d4⟩ := mkE_get k n j hlt
      have hbr := HB0.out.kept hg (by simp)
      have c0 := hbr.cell d0
      obtain ⟨K, hK⟩ : ∃ K, K = k + j * 5 := ⟨_, rfl⟩
      have HQ1 := Lib.hid (hbr.cell d1)
      have HQ2 := Lib.hid (hbr.cell d2)
      have HQ3 := Lib.hid (hbr.cell d3)
      have HQ4 := Lib.hid (hbr.cell d4)
      rw [← hK] at c0 HQ1 HQ2 HQ3 HQ4
      have hjI : (j : Int) < n := by omega
      have hK1 : K + 5 = k + (j + 1) * 5 := by omega
      have hKb : K ≤ 1099511627776 := by omega
      have HMT1 := Lib.hid (fun (W : World) (hW : W.cell? ⟨g, j * 5 + 1, none⟩ = some (.string (MT (K + 1))) ∧ wr.grownBy W none) => show Calls Tryd.prog 26 #[.int .i64 ((K : Int) + 1)] W (fun e w' => e = .returned (.string (MT (K + 1))) ∧ (w'.cell? ⟨g, j * 5 + 1, none⟩ = some (.string (MT (K + 1))) ∧ wr.grownBy w' none)) from by
        have := (markText_any W (K + 1) (by omega) (by omega)).mono (R' := fun e w' => e = .returned (.string (MT (K + 1))) ∧ (w'.cell? ⟨g, j * 5 + 1, none⟩ = some (.string (MT (K + 1))) ∧ wr.grownBy w' none)) (fun e w' q => ⟨q.1, q.2.cell hW.1 (by simp), grown_trans hW.2 q.2⟩)
        rw [show ((K + 1 : Nat) : Int) = (K : Int) + 1 from by omega] at this
        exact this)
      generalize MT (K + 1) = X1 at HQ1 HMT1
      have HMT2 := Lib.hid (fun (W : World) (hW : W.cell? ⟨g, j * 5 + 2, none⟩ = some (.string (MT (K + 2))) ∧ wr.grownBy W none) => show Calls Tryd.prog 26 #[.int .i64 ((K : Int) + 1 + 1)] W (fun e w' => e = .returned (.string (MT (K + 2))) ∧ (w'.cell? ⟨g, j * 5 + 2, none⟩ = some (.string (MT (K + 2))) ∧ wr.grownBy w' none)) from by
        have := (markText_any W (K + 2) (by omega) (by omega)).mono (R' := fun e w' => e = .returned (.string (MT (K + 2))) ∧ (w'.cell? ⟨g, j * 5 + 2, none⟩ = some (.string (MT (K + 2))) ∧ wr.grownBy w' none)) (fun e w' q => ⟨q.1, q.2.cell hW.1 (by simp), grown_trans hW.2 q.2⟩)
        rw [show ((K + 2 : Nat) : Int) = (K : Int) + 1 + 1 from by omega] at this
        exact this)
      generalize MT (K + 2) = X2 at HQ2 HMT2
      have HMT3 := Lib.hid (fun (W : World) (hW : W.cell? ⟨g, j * 5 + 3, none⟩ = some (.string (MT (K + 3))) ∧ wr.grownBy W none) => show Calls Tryd.prog 26 #[.int .i64 ((K : Int) + 1 + 1 + 1)] W (fun e w' => e = .returned (.string (MT (K + 3))) ∧ (w'.cell? ⟨g, j * 5 + 3, none⟩ = some (.string (MT (K + 3))) ∧ wr.grownBy w' none)) from by
        have := (markText_any W (K + 3) (by omega) (by omega)).mono (R' := fun e w' => e = .returned (.string (MT (K + 3))) ∧ (w'.cell? ⟨g, j * 5 + 3, none⟩ = some (.string (MT (K + 3))) ∧ wr.grownBy w' none)) (fun e w' q => ⟨q.1, q.2.cell hW.1 (by simp), grown_trans hW.2 q.2⟩)
        rw [show ((K + 3 : Nat) : Int) = (K : Int) + 1 + 1 + 1 from by omega] at this
        exact this)
      generalize MT (K + 3) = X3 at HQ3 HMT3
      have HMT4 := Lib.hid (fun (W : World) (hW : W.cell? ⟨g, j * 5 + 4, none⟩ = some (.string (MT (K + 4))) ∧ wr.grownBy W none) => show Calls Tryd.prog 26 #[.int .i64 ((K : Int) + 1 + 1 + 1 + 1)] W (fun e w' => e = .returned (.string (MT (K + 4))) ∧ (w'.cell? ⟨g, j * 5 + 4, none⟩ = some (.string (MT (K + 4))) ∧ wr.grownBy w' none)) from by
        have := (markText_any W (K + 4) (by omega) (by omega)).mono (R' := fun e w' => e = .returned (.string (MT (K + 4))) ∧ (w'.cell? ⟨g, j * 5 + 4, none⟩ = some (.string (MT (K + 4))) ∧ wr.grownBy w' none)) (fun e w' q => ⟨q.1, q.2.cell hW.1 (by simp), grown_trans hW.2 q.2⟩)
        rw [show ((K + 4 : Nat) : Int) = (K : Int) + 1 + 1 + 1 + 1 from by omega] at this
        exact this)
      generalize MT (K + 4) = X4 at HQ4 HMT4
      rw [← hK]
      clear hg hK hbr d0 d1 d2 d3 d4
      go_wp2
      have HSD1 := Lib.hid (show wr.drew.cell? ⟨g, j * 5 + 1, none⟩ = some (.string X1) ∧ wr.grownBy wr.drew none from ⟨HQ1.out, grown_drew (grown_refl _ _)⟩)
      go_region_held3 (fun w' => w'.cell? ⟨g, j * 5 + 1, none⟩ = some (.string X1) ∧ wr.grownBy w' none) (first | assumption | (with_reducible exact HSD1.out))
        (first | (go_at_call 26; refine (HMT1.out _ (by assumption)).mono ?_; rintro e w1 ⟨rfl, hS1⟩; have HG1 := Lib.hid hS1.2))
      all_goals
        go_wp2
        have HSD2 := Lib.hid (show w1.drew.cell? ⟨g, j * 5 + 2, none⟩ = some (.string X2) ∧ wr.grownBy w1.drew none from ⟨World.grownBy.cell HG1.out HQ2.out (by simp), grown_drew HG1.out⟩)
        go_region_held3 (fun w' => w'.cell? ⟨g, j * 5 + 2, none⟩ = some (.string X2) ∧ wr.grownBy w' none) (first | assumption | (with_reducible exact HSD2.out))
          (first | (go_at_call 26; refine (HMT2.out _ (by assumption)).mono ?_; rintro e w2 ⟨rfl, hS2⟩; have HG2 := Lib.hid hS2.2))
        all_goals
          go_wp2
          have HSD3 := Lib.hid (show w2.drew.cell? ⟨g, j * 5 + 3, none⟩ = some (.string X3) ∧ wr.grownBy w2.drew none from ⟨World.grownBy.cell HG2.out HQ3.out (by simp), grown_drew HG2.out⟩)
          go_region_held3 (fun w' => w'.cell? ⟨g, j * 5 + 3, none⟩ = some (.string X3) ∧ wr.grownBy w' none) (first | assumption | (with_reducible exact HSD3.out))
            (first | (go_at_call 26; refine (HMT3.out _ (by assumption)).mono ?_; rintro e w3 ⟨rfl, hS3⟩; have HG3 := Lib.hid hS3.2))
          all_goals
            go_wp2
            have HSD4 := Lib.hid (show w3.drew.cell? ⟨g, j * 5 + 4, none⟩ = some (.string X4) ∧ wr.grownBy w3.drew none from ⟨World.grownBy.cell HG3.out HQ4.out (by simp), grown_drew HG3.out⟩)
            go_region_held3 (fun w' => w'.cell? ⟨g, j * 5 + 4, none⟩ = some (.string X4) ∧ wr.grownBy w' none) (first | assumption | (with_reducible exact HSD4.out))
              (first | (go_at_call 26; refine (HMT4.out _ (by assumption)).mono ?_; rintro e w4 ⟨rfl, hS4⟩; have HG4 := Lib.hid hS4.2))
            all_goals
              go_wp2
              go_roundw
              case rel =>
                refine ⟨j + 1, by omega, ?_, by go_num, grown_trans HG.out HG4.out⟩
                rw [← hK1]
                go_num
              case measure => simp [intOf]; omega
    · obtain rfl : j = n := by omega
      go_wp2
      go_ret
      exact ⟨rfl, HG.out⟩
end Go.Proofs.YtfdhopkjblbkmaaDoor
