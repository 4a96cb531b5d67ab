/- Rows of what is seen: marked, asked for their marks, compared. -/
import Derived.Test.YtlnngamhjinpbaaQ7
namespace Go.Proofs.Ytlnngamhjinpbaa
open Go.RowKit

theorem RowT.set {w : World} {base g len cap n : Nat} {xs : List Value} (h : RowT w base (.slice (some ⟨g, 0, none⟩) len cap) n xs) (j : Nat) (x : Value) : RowT (w.setCell ⟨g, j, none⟩ x) base (.slice (some ⟨g, 0, none⟩) len cap) n (xs.set j x) := by
  obtain ⟨hl, ⟨h, _⟩ | ⟨g', cap', he, hb, hlt, hn, hc, hf⟩⟩ := h
  · cases h
  · cases he
    refine ⟨by simpa using hl, .inr ⟨g, cap, rfl, hb, by simpa [World.setCell] using hlt, hn, fun i hi => ?_, fun i hi => ⟨?_, ?_⟩⟩⟩
    · by_cases e : i = j
      · subst e
        rw [List.getElem?_set_self (by omega)]
        obtain ⟨u, hu⟩ := Option.isSome_iff_exists.1 (hf i (by omega)).1
        exact World.cell?_setCell_same w ⟨g, i, none⟩ x hu
      · rw [List.getElem?_set_ne (fun h => e h.symm), World.cell?_setCell_other w ⟨g, j, none⟩ ⟨g, i, none⟩ x (fun h => e (by cases h; rfl))]
        exact hc i hi
    · exact World.isSome_setCells g [x] j w ⟨g, i, none⟩ (hf i hi).1
    · rw [World.frozen?_setCell]; exact (hf i hi).2
theorem RowT.open {w : World} {base : Nat} {v : Value} {n : Nat} {xs : List Value} (h : RowT w base v n xs) : (v = .slice none 0 0 ∧ n = 0 ∧ xs = []) ∨ ∃ g cap, v = .slice (some ⟨g, 0, none⟩) n cap ∧ base ≤ g ∧ g < w.heap.size ∧ (∀ j (hj : j < xs.length), w.cell? ⟨g, j, none⟩ = some xs[j]) ∧ ∀ j, j < xs.length → w.frozen? ⟨g, j, none⟩ = false := by
  obtain ⟨hl, ⟨rfl, rfl⟩ | ⟨g, cap, rfl, hb, hlt, hn, hc, hf⟩⟩ := h
  · exact .inl ⟨rfl, rfl, List.eq_nil_of_length_eq_zero (by omega)⟩
  · refine .inr ⟨g, cap, rfl, hb, hlt, fun j hj => ?_, fun j hj => (hf j (by omega)).2⟩
    rw [hc j (by omega), List.getElem?_eq_getElem hj]
theorem RowT.at {w : World} {base g len cap n : Nat} {xs : List Value} (h : RowT w base (.slice (some ⟨g, 0, none⟩) len cap) n xs) (j : Nat) (hj : j < xs.length) : g < w.heap.size ∧ (∃ x, w.cell? ⟨g, j, none⟩ = some x) ∧ w.frozen? ⟨g, j, none⟩ = false := by
  rcases h.open with ⟨h0, -, -⟩ | ⟨g', cap', he, -, hgl, hcs, hfz⟩
  · cases h0
  · simp only [Value.slice.injEq, Option.some.injEq, Addr.mk.injEq] at he
    obtain ⟨⟨rfl, -, -⟩, -, -⟩ := he
    exact ⟨hgl, ⟨_, hcs j hj⟩, hfz j hj⟩

/-- cells marked so far -/
def mkd (k : Nat) (xs : List Value) (j : Nat) : List Value := strs (marks k j) ++ xs.drop j
theorem mkd_len (k : Nat) (xs : List Value) (j : Nat) (h : j ≤ xs.length) : (mkd k xs j).length = xs.length := by simp [mkd, strs_len, marks_len]; omega
theorem mkd_step (k : Nat) (xs : List Value) (j : Nat) (h : j < xs.length) : (mkd k xs j).set j (.string (MT (k + j))) = mkd k xs (j + 1) := by
  have hd : xs.drop j = xs[j] :: xs.drop (j + 1) := List.drop_eq_getElem_cons h
  unfold mkd strs
  rw [hd, List.set_append_right _ _ (by simp [marks_len])]
  rw [show j - (List.map Value.string (marks k j)).length = 0 from by simp [marks_len], List.set_cons_zero]
  simp [marks, List.range_succ]
theorem mkd_zero (k : Nat) (xs : List Value) : mkd k xs 0 = xs := by simp [mkd, marks, strs]
theorem mkd_all (k : Nat) (xs : List Value) (n : Nat) (h : xs.length = n) : mkd k xs n = strs (marks k n) := by simp [mkd, ← h]

set_option maxRecDepth 100000 in
set_option maxHeartbeats 2000000 in
theorem markSeen_any (w : World) (base : Nat) (v : Value) (n : Nat) (xs : List Value) (h : RowT w base v n xs) (hn : n ≤ 1048577) (k : Nat) (hk : 0 < k) (hkb : k ≤ 1048576) :
    Calls Try.prog 24 #[v, .int .i64 (k : Int)] w fun e w' => e = .returned (.int .i64 ((k + n * 2 : Nat) : Int)) ∧ RowT w' base v n (strs (marks k (n * 2))) ∧ w.grownBy w' v.ownBlock := by
  rcases h.open with ⟨rfl, rfl, rfl⟩ | ⟨g, cap, rfl, hbg, hgl, -, -⟩
  · clear h
    go_enter Try.func24, Try.ntmps24
    go_wp2
    go_loopw [1, 5] (fun kv i wr => kv = .int .i64 (k : Int) ∧ i = .int .i64 0 ∧ wr = w) (fun _ _ _ => 0)
    case atStart => exact ⟨rfl, rfl, rfl⟩
    case round =>
      obtain ⟨rfl, rfl, rfl⟩ := hrel
      go_wp2
      go_ret
      exact ⟨rfl, RowT.nil _ _, grown_refl _ _⟩
  · have HR0 := Lib.hid h
    have HXL := Lib.hid (show xs.length = n * 2 from h.1)
    clear h
    go_enter Try.func24, Try.ntmps24
    go_wp2
    go_loopw [1, 5] (fun kv i wr => ∃ j : Nat, j ≤ n ∧ kv = .int .i64 ((k + j * 2 : Nat) : Int) ∧ i = .int .i64 (j : Int) ∧ Hid (RowT wr base (.slice (some ⟨g, 0, none⟩) n cap) n (mkd k xs (j * 2))) ∧ w.grownBy wr (some g)) (fun _ i _ => n - (intOf i).toNat)
    case atStart => exact ⟨0, Nat.zero_le _, by simp, rfl, Lib.hid (by have := HR0.out; simpa [mkd_zero] using this), grown_refl _ _⟩
    case round =>
      obtain ⟨j, hj, rfl, rfl, HR, hg⟩ := hrel
      have HG := Lib.hid hg
      clear hg
      by_cases hlt : j < n
      · have hml := mkd_len k xs (j * 2) (by have := HXL.out; omega)
        obtain ⟨hgl', ⟨y0, hc0⟩, hf0⟩ := HR.out.at (j * 2) (by rw [hml, HXL.out]; omega)
        obtain ⟨-, ⟨y1, hc1⟩, hf1⟩ := HR.out.at (j * 2 + 1) (by rw [hml, HXL.out]; omega)
        have HST := Lib.hid (show ((mkd k xs (j * 2)).set (j * 2) (.string (MT (k + j * 2)))).set (j * 2 + 1) (.string (MT (k + j * 2 + 1))) = mkd k xs ((j + 1) * 2) from by
          rw [mkd_step k xs (j * 2) (by rw [HXL.out]; omega), show k + j * 2 + 1 = k + (j * 2 + 1) from by omega, mkd_step k xs (j * 2 + 1) (by rw [HXL.out]; omega)]
          congr 1
          omega)
        obtain ⟨K, hK⟩ : ∃ K, K = k + j * 2 := ⟨_, rfl⟩
        rw [← hK] at HST
        have HMK := Lib.hid (markText_any wr K (by omega) (by omega))
        have HMK2 := Lib.hid (fun W => show Calls Try.prog 47 #[.int .i64 ((K : Int) + 1)] W fun e w' => e = .returned (.string (MT (K + 1))) ∧ W.grownBy w' none from by
          have := markText_any W (K + 1) (by omega) (by omega)
          rw [show ((K + 1 : Nat) : Int) = (K : Int) + 1 from by omega] at this
          exact this)
        have HC1 := Lib.hid hc1
        have HF1 := Lib.hid hf1
        have HC0 := Lib.hid hc0
        have HF0 := Lib.hid hf0
        have hjI : (j : Int) < n := by omega
        have hK1 : K + 2 = k + (j + 1) * 2 := by omega
        have hKb : K ≤ 1099511627776 := by omega
        rw [← hK]
        clear hc0 hf0 hc1 hf1 hml hK
        go_wp2_with fail
        refine HMK.out.mono ?_
        rintro e w1 ⟨rfl, hg1⟩
        have HG1 := Lib.hid hg1
        have c1 := hg1.cell HC0.out (by simp)
        have f1 : w1.frozen? ⟨g, j * 2, none⟩ = false := by rw [World.frozen?_of_block (w := wr) (a := ⟨g, j * 2, none⟩) (hg1.block g hgl' (by simp))]; exact HF0.out
        have HR1 := Lib.hid ((HR.out.kept hg1 (by simp)).set (j * 2) (.string (MT K)))
        clear hg1 HMK
        generalize MT K = X at HST HR1 ⊢
        go_wp2_with fail
        obtain ⟨wa, hwa⟩ : ∃ wa, w1.setCell ⟨g, j * 2, none⟩ (.string X) = wa := ⟨_, rfl⟩
        rw [hwa] at HR1 ⊢
        have hgs := grown_set (grown_refl w1 (some g)) (j * 2) (.string X)
        rw [hwa] at hgs
        have HGS := Lib.hid (grown_trans (grown_trans HG.out (grown_widen HG1.out)) hgs)
        have hga : g < wa.heap.size := by have h1 := HG1.out.size; have h2 := hgs.size; omega
        clear hwa hgs c1 f1
        have hml2 : ((mkd k xs (j * 2)).set (j * 2) (.string X)).length = n * 2 := by rw [List.length_set, mkd_len k xs (j * 2) (by have := HXL.out; omega), HXL.out]
        obtain ⟨-, ⟨z1, hc1⟩, hf1⟩ := HR1.out.at (j * 2 + 1) (by rw [hml2]; omega)
        have HC2 := Lib.hid hc1
        have HF2 := Lib.hid hf1
        clear hc1 hf1 hml2
        refine (HMK2.out wa).mono ?_
        rintro e w2 ⟨rfl, hg2⟩
        have HG2 := Lib.hid (grown_trans HGS.out (grown_widen hg2))
        have c2 := hg2.cell HC2.out (by simp)
        have f2 : w2.frozen? ⟨g, j * 2 + 1, none⟩ = false := by rw [World.frozen?_of_block (w := wa) (a := ⟨g, j * 2 + 1, none⟩) (hg2.block g hga (by simp))]; exact HF2.out
        have HR2 := Lib.hid ((HR1.out.kept hg2 (by simp)).set (j * 2 + 1) (.string (MT (K + 1))))
        clear hg2 HMK2
        generalize MT (K + 1) = Y at HST HR2 ⊢
        go_wp2
        go_roundw
        case rel =>
          refine ⟨j + 1, by omega, ?_, by go_num, Lib.hid ?_, grown_set HG2.out _ _⟩
          · rw [← hK1]
            go_num
          · rw [← HST.out]
            exact HR2.out
        case measure => simp [intOf]; omega
      · obtain rfl : j = n := by omega
        have HE := Lib.hid (mkd_all k xs (j * 2) HXL.out)
        go_wp2
        go_ret
        refine ⟨rfl, by rw [← HE.out]; exact HR.out, HG.out⟩
end Go.Proofs.Ytlnngamhjinpbaa
