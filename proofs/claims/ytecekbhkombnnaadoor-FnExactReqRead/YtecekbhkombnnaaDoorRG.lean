/- A request, read by the document. -/
import Derived.Test.YtecekbhkombnnaaDoorRF
namespace Go.Proofs.YtecekbhkombnnaaDoor
open Go.RowKit

theorem Row.empty {w : World} {base g : Nat} (h1 : base ≤ g) (h2 : g < w.heap.size) : Row w base (.slice (some ⟨g, 0, none⟩) 0 0) (strs []) :=
  .inr ⟨g, 0, rfl, h1, h2, Nat.le_refl _, fun _ hj => absurd hj (Nat.not_lt_zero _), fun _ hj => absurd hj (Nat.not_lt_zero _)⟩
def wordsTo (p : ByteArray) (k : Nat) : List ByteArray := (List.range k).map fun j => wordK j p
theorem wordsTo_len (p : ByteArray) (k : Nat) : (strs (wordsTo p k)).length = k := by simp [wordsTo, strs]
theorem wordsTo_add (p : ByteArray) (k : Nat) : strs (wordsTo p (k + 1)) = strs (wordsTo p k) ++ strs [wordK k p] := by
  unfold wordsTo strs
  rw [List.range_succ]
  simp
theorem row_open {w : World} {base : Nat} {v : Value} {L : List ByteArray} (h : Row w base v (strs L)) (hne : 0 < L.length) : ∃ g cap, v = .slice (some ⟨g, 0, none⟩) L.length cap ∧ base ≤ g ∧ g < w.heap.size := by
  rcases h with ⟨-, h0⟩ | ⟨g, cap, rfl, hb, hl, -⟩
  · rw [← List.length_eq_zero_iff, strs_len] at h0; omega
  · exact ⟨g, cap, by rw [strs_len], hb, hl⟩
theorem decI_pos (n : Int) : 1 ≤ (decI n).size := by
  show 1 ≤ ((Lib.itoa n).toArray).size
  unfold Lib.itoa
  split
  · simp
  · have := dec_ne n.toNat
    have := List.length_pos_iff.2 this
    simp
    omega
/-- the kind found so far -/
theorem kindTo_next (x : ByteArray) (k : Nat) (h : 1 ≤ k) : kindTo x (k + 1) = if (kindW k).toList = x.toList then k else kindTo x k := by
  rw [kindTo]
  by_cases h2 : (kindW k).toList = x.toList
  · rw [if_pos ⟨h, h2⟩, if_pos h2]
  · rw [if_neg (fun hh => h2 hh.2), if_neg h2]
/-- the six words, some of them named -/
def wordsN (x0 x1 x2 x3 x4 x5 : ByteArray) (k : Nat) : List ByteArray := [x0, if 1 < k then namedT x1 else x1, if 2 < k then namedT x2 else x2, if 3 < k then namedT x3 else x3, x4, x5]

set_option maxRecDepth 100000 in
set_option maxHeartbeats 16000000 in
theorem sread_any (w : World) (p : ByteArray) (hs : p.size ≤ 1048576) : Calls Tryd.prog 10 #[.string p] w fun e w' => RRes p e ∧ w.grownBy w' none := by
  obtain ⟨i9, hi9, hz0, hz1, hz2⟩ := info_parts info9
  obtain ⟨W0, hW0⟩ : ∃ W, (w.alloc (Obj.cells #[Value.int .i64 0, .string ⟨#[]⟩, .string ⟨#[]⟩, .string ⟨#[]⟩, .int .i64 0, .int .i64 0, .string ⟨#[]⟩] 31)).alloc (Obj.cells #[Value.int .i64 0, .string ⟨#[]⟩, .string ⟨#[]⟩, .string ⟨#[]⟩, .int .i64 0, .int .i64 0, .string ⟨#[]⟩] 31) = W := ⟨_, rfl⟩
  obtain ⟨B, hB⟩ : ∃ x, w.heap.size + 1 = x := ⟨_, rfl⟩
  obtain ⟨C, hC⟩ : ∃ x, w.heap.size = x := ⟨_, rfl⟩
  obtain ⟨Z, hZ⟩ : ∃ Z, reqC 0 ⟨#[]⟩ ⟨#[]⟩ ⟨#[]⟩ 0 0 ⟨#[]⟩ = Z := ⟨_, rfl⟩
  have HC0 := Lib.hid (show Blk W0 C 31 Z from by rw [← hW0, ← hC, ← hZ]; exact (Blk.new w 31 (reqC 0 ⟨#[]⟩ ⟨#[]⟩ ⟨#[]⟩ 0 0 ⟨#[]⟩)).alloc _)
  have HB0 := Lib.hid (show Blk W0 B 31 Z from by
    rw [← hW0, ← hB, ← hZ]
    have := Blk.new (w.alloc (Obj.cells #[Value.int .i64 0, .string ⟨#[]⟩, .string ⟨#[]⟩, .string ⟨#[]⟩, .int .i64 0, .int .i64 0, .string ⟨#[]⟩] 31)) 31 (reqC 0 ⟨#[]⟩ ⟨#[]⟩ ⟨#[]⟩ 0 0 ⟨#[]⟩)
    rw [show (w.alloc (Obj.cells #[Value.int .i64 0, .string ⟨#[]⟩, .string ⟨#[]⟩, .string ⟨#[]⟩, .int .i64 0, .int .i64 0, .string ⟨#[]⟩] 31)).heap.size = w.heap.size + 1 from by simp] at this
    exact this)
  have HG0 := Lib.hid (show w.grownBy W0 none from by rw [← hW0]; exact grown_alloc (grown_alloc (grown_refl _ _) _) _)
  have HSZ0 := Lib.hid (show W0.heap.size = w.heap.size + 2 from by rw [← hW0]; simp)
  have HBC := Lib.hid (show w.heap.size ≤ C ∧ C < B ∧ B < w.heap.size + 2 from by omega)
  have HZE := Lib.hid hZ
  have HW0 := Lib.hid hW0
  have HBE := Lib.hid hB
  have HCE := Lib.hid hC
  clear hW0 hB hC hZ
  go_enter Tryd.func10, Tryd.ntmps10
  go_wp2_with (first
    | (rw [HW0.out, HBE.out, HCE.out]; refine wpList_store_blk rfl 31 _ _ rfl B (reqC 0 ⟨#[]⟩ ⟨#[]⟩ ⟨#[]⟩ 0 0 ⟨#[]⟩) Z 31 HB0.out infoReq (by rw [← HZE.out]) (reqC_one _ _ _ _ _ _ _) rfl rfl ?_; intro wA hbA hgA))
  have HBA := Lib.hid hbA.out
  rw [HZE.out] at HBA
  have HCA := Lib.hid (HC0.out.kept hgA.out (by have := HBC.out; simp; omega))
  have HGA := Lib.hid (grown_into HG0.out hgA.out (by have := HBC.out; omega))
  have HSA := Lib.hid (show w.heap.size + 2 ≤ wA.heap.size from by have := hgA.out.size; have := HSZ0.out; omega)
  obtain ⟨B0, hB0⟩ : ∃ x, wA.heap.size = x := ⟨_, rfl⟩
  obtain ⟨W1, hW1⟩ : ∃ x, wA.alloc (Obj.cells #[] 9) = x := ⟨_, rfl⟩
  have HB1 := Lib.hid (show Blk W1 B 31 Z from by rw [← hW1]; exact HBA.out.alloc _)
  have HC1 := Lib.hid (show Blk W1 C 31 Z from by rw [← hW1]; exact HCA.out.alloc _)
  have HG1 := Lib.hid (show w.grownBy W1 none from by rw [← hW1]; exact grown_alloc HGA.out _)
  have HR1 := Lib.hid (show Row W1 B0 (.slice (some ⟨B0, 0, none⟩) 0 0) (strs []) from Row.empty (Nat.le_refl _) (by rw [← hW1, ← hB0]; simp))
  have HS1 := Lib.hid (show w.heap.size + 2 ≤ B0 ∧ B0 < W1.heap.size from by rw [← hW1, ← hB0]; have := HSA.out; simp; omega)
  rw [hB0, hW1]
  clear hbA hgA HBA HCA HGA HSA hW1 hB0 HW0 HB0 HC0 HG0 HSZ0
  go_loopw [5, 6, 7] (fun rv sv i wr => ∃ k : Nat, k ≤ 6 ∧ i = .int .i64 k ∧ rv = .string (restK k p) ∧ Hid (Row wr B0 sv (strs (wordsTo p k))) ∧ Hid (Blk wr B 31 Z) ∧ Hid (Blk wr C 31 Z) ∧ Hid (w.grownBy wr none) ∧ B0 < wr.heap.size) (fun _ _ i _ => 6 - (intOf i).toNat)
  case atStart => exact ⟨0, by omega, rfl, rfl, HR1, HB1, HC1, HG1, HS1.out.2⟩
  case round =>
    clear HR1 HB1 HC1 HG1
    obtain ⟨k, hk, rfl, rfl, HR, HB, HC, HG, hsz⟩ := hrel
    by_cases hlt : k < 6
    · have hkI : (k : Int) < 6 := by omega
      have HHD := Lib.hid (shead_any wr (restK k p) (Nat.le_trans (restK_size k p) hs))
      obtain ⟨X, hX⟩ : ∃ X, headB 32 (restK k p) = X := ⟨_, rfl⟩
      obtain ⟨Y, hY⟩ : ∃ X, restB 32 (restK k p) = X := ⟨_, rfl⟩
      have HXE := Lib.hid (show wordK k p = X ∧ restK (k + 1) p = Y from ⟨hX, hY⟩)
      obtain ⟨RK, hRK⟩ : ∃ X, restK k p = X := ⟨_, rfl⟩
      rw [hX, hY, hRK] at HHD
      rw [hRK]
      have HLN := Lib.hid (wordsTo_len p k)
      clear hX hY hRK
      go_wp2_with fail
      refine HHD.out.mono ?_
      rintro e w1 ⟨rfl, hg1⟩
      have HR1 := Lib.hid (HR.out.kept hg1 (by simp))
      have HB1 := Lib.hid (HB.out.kept hg1 (by simp))
      have HC1 := Lib.hid (HC.out.kept hg1 (by simp))
      have HG1 := Lib.hid (grown_trans HG.out hg1)
      have hsz1 : B0 < w1.heap.size := Nat.lt_of_lt_of_le hsz hg1.size
      clear hg1 HHD HR HB HC HG
      go_wp2_with (first | (at_builtin; refine wpList_append_row2 rfl _ _ 22 rfl 9 i9 (.string ⟨#[]⟩) 16 Tryd.underlying22 hi9 hz0 hz1 hz2 rfl B0 _ (strs (wordsTo p k)) rfl (HR1.out.alloc _) ⟨_, 0, none⟩ 1 1 (strs [X]) rfl rfl (news_new _ 9 (strs [X])) (strs_one _) (by have := HLN.out; rw [this]; unfold maxLen; omega) (by have := HLN.out; rw [this]; omega) (by simp; omega) ?_; intro v2 w2 HR2 HG2 HO2))
      have HQ := Lib.hid (fun q hq => (HR1.out.lt q hq).1)
      go_roundw
      case rel =>
        refine ⟨k + 1, by omega, by go_num, by rw [HXE.out.2], Lib.hid (by rw [wordsTo_add, HXE.out.1]; exact HR2.out), Lib.hid ((HB1.out.alloc _).kept HG2.out (fun e => ?_)), Lib.hid ((HC1.out.alloc _).kept HG2.out (fun e => ?_)), Lib.hid (grown_own (grown_alloc HG1.out _) HG2.out (fun q hq => ?_)), ?_⟩
        · have := HQ.out _ e.symm; have := HBC.out; have := HS1.out; omega
        · have := HQ.out _ e.symm; have := HBC.out; have := HS1.out; omega
        · have := HQ.out _ hq; have := HS1.out; omega
        · have := HG2.out.size; simp at this; omega
      case measure => simp [intOf]; omega
    · obtain rfl : k = 6 := by omega
      obtain ⟨x0, hx0⟩ : ∃ x, wordK 0 p = x := ⟨_, rfl⟩
      obtain ⟨x1, hx1⟩ : ∃ x, wordK 1 p = x := ⟨_, rfl⟩
      obtain ⟨x2, hx2⟩ : ∃ x, wordK 2 p = x := ⟨_, rfl⟩
      obtain ⟨x3, hx3⟩ : ∃ x, wordK 3 p = x := ⟨_, rfl⟩
      obtain ⟨x4, hx4⟩ : ∃ x, wordK 4 p = x := ⟨_, rfl⟩
      obtain ⟨x5, hx5⟩ : ∃ x, wordK 5 p = x := ⟨_, rfl⟩
      obtain ⟨x6, hx6⟩ : ∃ x, restK 6 p = x := ⟨_, rfl⟩
      have HXE := Lib.hid (show wordK 0 p = x0 ∧ wordK 1 p = x1 ∧ wordK 2 p = x2 ∧ wordK 3 p = x3 ∧ wordK 4 p = x4 ∧ wordK 5 p = x5 ∧ restK 6 p = x6 from ⟨hx0, hx1, hx2, hx3, hx4, hx5, hx6⟩)
      have hR := HR.out
      rw [show wordsTo p 6 = wordsN x0 x1 x2 x3 x4 x5 1 from by rw [← hx0, ← hx1, ← hx2, ← hx3, ← hx4, ← hx5]; rfl] at hR
      rw [hx6]
      clear hx0 hx1 hx2 hx3 hx4 hx5 hx6 HR
      obtain ⟨g, cap, rfl, hbg, hgl⟩ := row_open hR (by simp [wordsN])
      have HR := Lib.hid hR
      have HGB := Lib.hid (show B < g ∧ C < g from by have := HBC.out; have := HS1.out; omega)
      have hgB : g ≠ B := by have := HGB.out; omega
      rw [show (wordsN x0 x1 x2 x3 x4 x5 1).length = 6 from rfl] at hR HR ⊢
      have HKC := Lib.hid (kinds_call wr)
      obtain ⟨KB, hKB⟩ : ∃ x, wr.heap.size = x := ⟨_, rfl⟩
      obtain ⟨WK, hWK⟩ : ∃ x, wr.alloc kindsObj = x := ⟨_, rfl⟩
      have HKL := Lib.hid (show ∀ m, m < 11 → WK.cell? ⟨KB, m, none⟩ = some (.string (kindW m)) from fun m hm => by rw [← hWK, ← hKB]; exact kinds_cell wr m hm)
      have HR2 := Lib.hid (show Row WK B0 (.slice (some ⟨g, 0, none⟩) 6 cap) (strs (wordsN x0 x1 x2 x3 x4 x5 1)) from by rw [← hWK]; exact HR.out.alloc _)
      have HB2 := Lib.hid (show Blk WK B 31 Z from by rw [← hWK]; exact HB.out.alloc _)
      have HC2 := Lib.hid (show Blk WK C 31 Z from by rw [← hWK]; exact HC.out.alloc _)
      have HG2 := Lib.hid (show w.grownBy WK none from by rw [← hWK]; exact grown_alloc HG.out _)
      have HKB := Lib.hid (show B < KB ∧ g < KB from by rw [← hKB]; have := HGB.out; omega)
      rw [hKB, hWK] at HKC
      clear hR HR HB HC HG hKB hWK hgl hbg hsz hk hlt
      go_wp2_with fail
      refine HKC.out.mono ?_
      rintro e wk ⟨rfl, rfl⟩
      clear HKC
      go_wp2
      have hKB1 : KB ≠ B := by have := HKB.out; omega
      have HB2' := Lib.hid (show Blk wk B 31 (reqC (kindTo x0 1 : Nat) ⟨#[]⟩ ⟨#[]⟩ ⟨#[]⟩ 0 0 ⟨#[]⟩) from by rw [show (kindTo x0 1 : Nat) = 0 from rfl]; rw [← HZE.out] at HB2; exact HB2.out)
      go_loopw [11] (fun i wq => ∃ k : Nat, 1 ≤ k ∧ k ≤ 11 ∧ i = .int .i64 k ∧ Hid (Blk wq B 31 (reqC (kindTo x0 k : Nat) ⟨#[]⟩ ⟨#[]⟩ ⟨#[]⟩ 0 0 ⟨#[]⟩)) ∧ Hid (wk.grownBy wq (some B))) (fun i _ => 11 - (intOf i).toNat)
      case atStart => exact ⟨1, by omega, by omega, rfl, HB2', Lib.hid (grown_refl _ _)⟩
      case round =>
        clear HB2'
        obtain ⟨k, hk1, hk, rfl, HBq, HGq⟩ := hrel
        by_cases hlt : k < 11
        · have hkI : (k : Int) < 11 := by omega
          obtain ⟨KW, hKW⟩ : ∃ x, kindW k = x := ⟨_, rfl⟩
          have d1 : wr.cell? ⟨KB, k, none⟩ = some (.string KW) := by rw [← hKW]; exact HGq.out.cell (HKL.out k hlt) (by simp; omega)
          have d2 : wr.cell? ⟨g, 0, none⟩ = some (.string x0) := HGq.out.cell (by
            rcases HR2.out.open_strs with ⟨h, -⟩ | ⟨g', cap', he, -, -, hc, -⟩
            · cases h
            · cases he; exact hc 0 (by simp [wordsN])) (by simp; omega)
          have d3 : wr.cell? ⟨B, 0, none⟩ = some (.int .i64 (kindTo x0 k : Nat)) := HBq.out.cell rfl
          have f3 := HBq.out.frozen 0
          by_cases hq : KW.toList = x0.toList
          · have hqb : (KW.toList == x0.toList) = true := by rw [beq_iff_eq]; exact hq
            have HKN := Lib.hid (show kindTo x0 (k + 1) = k from by rw [kindTo_next x0 k hk1, hKW, if_pos hq])
            clear hq hKW
            go_wp2
            go_region
            all_goals
              go_wp2
              go_roundw
              case rel => exact ⟨k + 1, by omega, by omega, by go_num, Lib.hid (by rw [HKN.out]; exact HBq.out.drew.set 0 (.int .i64 (k : Int))), Lib.hid (grown_set (grown_drew HGq.out) 0 _)⟩
              case measure => simp [intOf]; omega
          · have hqb : (KW.toList == x0.toList) = false := by rw [beq_eq_false_iff_ne]; exact hq
            have HKN := Lib.hid (show kindTo x0 (k + 1) = kindTo x0 k from by rw [kindTo_next x0 k hk1, hKW, if_neg hq])
            clear hq hKW
            go_wp2
            go_region
            all_goals
              go_wp2
              go_roundw
              case rel => exact ⟨k + 1, by omega, by omega, by go_num, Lib.hid (by rw [HKN.out]; exact HBq.out.drew), Lib.hid (grown_drew HGq.out)⟩
              case measure => simp [intOf]; omega
        · obtain rfl : k = 11 := by omega
          obtain ⟨kd, hkd⟩ : ∃ x, kindTo x0 11 = x := ⟨_, rfl⟩
          rw [hkd] at HBq
          have HKD := Lib.hid hkd
          have HR3 := Lib.hid (HR2.out.kept HGq.out (fun q hq e => by simp [Value.ownBlock] at hq; cases e; have := HGB.out; omega))
          have HC3 := Lib.hid (HC2.out.kept HGq.out (by have := HBC.out; simp; omega))
          have HG3 := Lib.hid (grown_into HG2.out HGq.out (by have := HBC.out; omega))
          clear hkd HR2 HB2 HC2 HG2 HGq HKL hk hk1 hlt
          obtain ⟨w3, rfl⟩ : ∃ x, x = wr := ⟨_, rfl⟩
          go_wp2
          go_loopw [12] (fun i wq => ∃ k : Nat, 1 ≤ k ∧ k ≤ 4 ∧ i = .int .i64 k ∧ Hid (Row wq B0 (.slice (some ⟨g, 0, none⟩) 6 cap) (strs (wordsN x0 x1 x2 x3 x4 x5 k))) ∧ Hid (w3.grownBy wq (some g))) (fun i _ => 4 - (intOf i).toNat)
          case atStart => exact ⟨1, by omega, by omega, rfl, HR3, Lib.hid (grown_refl _ _)⟩
          case round =>
            clear HR3
            obtain ⟨k, hk1, hk, rfl, HR, HGw⟩ := hrel
            have hcs : ∀ j (hj : j < 6), wr.cell? ⟨g, j, none⟩ = some (.string ((wordsN x0 x1 x2 x3 x4 x5 k)[j]'hj)) ∧ wr.frozen? ⟨g, j, none⟩ = false := fun j hj => by
              rcases HR.out.open_strs with ⟨h, -⟩ | ⟨g', cap', he, -, -, hc, hf⟩
              · cases h
              · cases he; exact ⟨hc j hj, hf j hj⟩
            by_cases hlt : k < 4
            · have hcase : k = 1 ∨ k = 2 ∨ k = 3 := by omega
              rcases hcase with rfl | rfl | rfl
              · have d1 : wr.cell? ⟨g, 1, none⟩ = some (.string x1) := (hcs 1 (by omega)).1
                have f1 := (hcs 1 (by omega)).2
                clear hcs
                by_cases hq : x1.toList = [45]
                · have hqb : (x1.toList == [45]) = true := by rw [beq_iff_eq]; exact hq
                  have HNM := Lib.hid (show namedT x1 = ⟨#[]⟩ from by unfold namedT; rw [if_pos hq])
                  clear hq
                  go_wp2
                  go_roundw
                  case rel => exact ⟨1 + 1, by omega, by omega, by go_num, Lib.hid (by
                    have := HR.out.set 1 (.string ⟨#[]⟩)
                    rw [show (strs (wordsN x0 x1 x2 x3 x4 x5 1)).set 1 (.string ⟨#[]⟩) = strs (wordsN x0 x1 x2 x3 x4 x5 (1 + 1)) from by simp [wordsN, strs, HNM.out]] at this
                    exact this), Lib.hid (grown_set HGw.out 1 _)⟩
                  case measure => simp [intOf]
                · have hqb : (x1.toList == [45]) = false := by rw [beq_eq_false_iff_ne]; exact hq
                  have HNM := Lib.hid (show namedT x1 = x1 from by unfold namedT; rw [if_neg hq])
                  clear hq
                  go_wp2
                  go_roundw
                  case rel => exact ⟨1 + 1, by omega, by omega, by go_num, Lib.hid (by
                    have := HR.out
                    rw [show strs (wordsN x0 x1 x2 x3 x4 x5 1) = strs (wordsN x0 x1 x2 x3 x4 x5 (1 + 1)) from by simp [wordsN, strs, HNM.out]] at this
                    exact this), HGw⟩
                  case measure => simp [intOf]
              · have d1 : wr.cell? ⟨g, 2, none⟩ = some (.string x2) := (hcs 2 (by omega)).1
                have f1 := (hcs 2 (by omega)).2
                clear hcs
                by_cases hq : x2.toList = [45]
                · have hqb : (x2.toList == [45]) = true := by rw [beq_iff_eq]; exact hq
                  have HNM := Lib.hid (show namedT x2 = ⟨#[]⟩ from by unfold namedT; rw [if_pos hq])
                  clear hq
                  go_wp2
                  go_roundw
                  case rel => exact ⟨2 + 1, by omega, by omega, by go_num, Lib.hid (by
                    have := HR.out.set 2 (.string ⟨#[]⟩)
                    rw [show (strs (wordsN x0 x1 x2 x3 x4 x5 2)).set 2 (.string ⟨#[]⟩) = strs (wordsN x0 x1 x2 x3 x4 x5 (2 + 1)) from by simp [wordsN, strs, HNM.out]] at this
                    exact this), Lib.hid (grown_set HGw.out 2 _)⟩
                  case measure => simp [intOf]
                · have hqb : (x2.toList == [45]) = false := by rw [beq_eq_false_iff_ne]; exact hq
                  have HNM := Lib.hid (show namedT x2 = x2 from by unfold namedT; rw [if_neg hq])
                  clear hq
                  go_wp2
                  go_roundw
                  case rel => exact ⟨2 + 1, by omega, by omega, by go_num, Lib.hid (by
                    have := HR.out
                    rw [show strs (wordsN x0 x1 x2 x3 x4 x5 2) = strs (wordsN x0 x1 x2 x3 x4 x5 (2 + 1)) from by simp [wordsN, strs, HNM.out]] at this
                    exact this), HGw⟩
                  case measure => simp [intOf]
              · have d1 : wr.cell? ⟨g, 3, none⟩ = some (.string x3) := (hcs 3 (by omega)).1
                have f1 := (hcs 3 (by omega)).2
                clear hcs
                by_cases hq : x3.toList = [45]
                · have hqb : (x3.toList == [45]) = true := by rw [beq_iff_eq]; exact hq
                  have HNM := Lib.hid (show namedT x3 = ⟨#[]⟩ from by unfold namedT; rw [if_pos hq])
                  clear hq
                  go_wp2
                  go_roundw
                  case rel => exact ⟨3 + 1, by omega, by omega, by go_num, Lib.hid (by
                    have := HR.out.set 3 (.string ⟨#[]⟩)
                    rw [show (strs (wordsN x0 x1 x2 x3 x4 x5 3)).set 3 (.string ⟨#[]⟩) = strs (wordsN x0 x1 x2 x3 x4 x5 (3 + 1)) from by simp [wordsN, strs, HNM.out]] at this
                    exact this), Lib.hid (grown_set HGw.out 3 _)⟩
                  case measure => simp [intOf]
                · have hqb : (x3.toList == [45]) = false := by rw [beq_eq_false_iff_ne]; exact hq
                  have HNM := Lib.hid (show namedT x3 = x3 from by unfold namedT; rw [if_neg hq])
                  clear hq
                  go_wp2
                  go_roundw
                  case rel => exact ⟨3 + 1, by omega, by omega, by go_num, Lib.hid (by
                    have := HR.out
                    rw [show strs (wordsN x0 x1 x2 x3 x4 x5 3) = strs (wordsN x0 x1 x2 x3 x4 x5 (3 + 1)) from by simp [wordsN, strs, HNM.out]] at this
                    exact this), HGw⟩
                  case measure => simp [intOf]
            · obtain rfl : k = 4 := by omega
              obtain ⟨w4, rfl⟩ : ∃ x, x = wr := ⟨_, rfl⟩
              obtain ⟨n1, hn1⟩ : ∃ x, namedT x1 = x := ⟨_, rfl⟩
              obtain ⟨n2, hn2⟩ : ∃ x, namedT x2 = x := ⟨_, rfl⟩
              obtain ⟨n3, hn3⟩ : ∃ x, namedT x3 = x := ⟨_, rfl⟩
              have d1 : w4.cell? ⟨g, 1, none⟩ = some (.string n1) := by rw [← hn1]; exact (hcs 1 (by omega)).1
              have d2 : w4.cell? ⟨g, 2, none⟩ = some (.string n2) := by rw [← hn2]; exact (hcs 2 (by omega)).1
              have d3 : w4.cell? ⟨g, 3, none⟩ = some (.string n3) := by rw [← hn3]; exact (hcs 3 (by omega)).1
              have d4 : w4.cell? ⟨g, 4, none⟩ = some (.string x4) := (hcs 4 (by omega)).1
              have d5 : w4.cell? ⟨g, 5, none⟩ = some (.string x5) := (hcs 5 (by omega)).1
              have HNE := Lib.hid (show namedT x1 = n1 ∧ namedT x2 = n2 ∧ namedT x3 = n3 from ⟨hn1, hn2, hn3⟩)
              have HB4 := Lib.hid (HBq.out.kept HGw.out (by have := HGB.out; simp; omega))
              have HC4 := Lib.hid (HC3.out.kept HGw.out (by have := HGB.out; simp; omega))
              have HG4 := Lib.hid (grown_into HG3.out HGw.out (by have := HBC.out; have := HGB.out; omega))
              have hx4s : x4.size ≤ 1048576 := by have := wordK_size 4 p; rw [HXE.out.2.2.2.2.1] at this; omega
              have hx5s : x5.size ≤ 1048576 := by have := wordK_size 5 p; rw [HXE.out.2.2.2.2.2.1] at this; omega
              have z1 : n1.size ≤ 1048576 := by have := wordK_size 1 p; rw [HXE.out.2.1] at this; have h2 := namedT_size x1; rw [hn1] at h2; omega
              have z2 : n2.size ≤ 1048576 := by have := wordK_size 2 p; rw [HXE.out.2.2.1] at this; have h2 := namedT_size x2; rw [hn2] at h2; omega
              have z3 : n3.size ≤ 1048576 := by have := wordK_size 3 p; rw [HXE.out.2.2.2.1] at this; have h2 := namedT_size x3; rw [hn3] at h2; omega
              have z6 : x6.size ≤ 1048576 := by have := restK_size 6 p; rw [HXE.out.2.2.2.2.2.2] at this; omega
              have HN4 := Lib.hid (snum_any w4 x4 hx4s)
              have HN5 := Lib.hid (snum_any w4 x5 hx5s)
              clear hcs hn1 hn2 hn3 HR HBq HC3 HG3 HGw hx4s hx5s hk hk1 hlt
              go_wp2_with fail
              refine HN4.out.mono ?_
              rintro e wx ⟨⟨r, b1, rfl, hr⟩, hwx⟩
              have hwx := hwx.symm
              subst hwx
              have HRn := Lib.hid hr
              clear hr HN4
              go_wp2_with fail
              refine HN5.out.mono ?_
              rintro e wx ⟨⟨n, b2, rfl, hn⟩, hwx⟩
              have hwx := hwx.symm
              subst hwx
              have HNn := Lib.hid hn
              clear hn HN5
              obtain ⟨S, hS, hSs, -⟩ := stext_any (kd : Int) n1 n2 n3 r n x6 z1 z2 z3 z6
              have HST := Lib.hid hS
              have HWR := Lib.hid hSs
              clear hS hSs z1 z2 z3 z6
              have b0 : w4.cell? ⟨B, 0, none⟩ = some (.int .i64 (kd : Int)) := HB4.out.cell rfl
              have b1' : w4.cell? ⟨B, 1, none⟩ = some (.string ⟨#[]⟩) := HB4.out.cell rfl
              have b2' : w4.cell? ⟨B, 2, none⟩ = some (.string ⟨#[]⟩) := HB4.out.cell rfl
              have b3' : w4.cell? ⟨B, 3, none⟩ = some (.string ⟨#[]⟩) := HB4.out.cell rfl
              have b4' : w4.cell? ⟨B, 4, none⟩ = some (.int .i64 0) := HB4.out.cell rfl
              have b5' : w4.cell? ⟨B, 5, none⟩ = some (.int .i64 0) := HB4.out.cell rfl
              have b6' : w4.cell? ⟨B, 6, none⟩ = some (.string ⟨#[]⟩) := HB4.out.cell rfl
              have g1' := HB4.out.frozen 1
              have g2' := HB4.out.frozen 2
              have g3' := HB4.out.frozen 3
              have g4' := HB4.out.frozen 4
              have g5' := HB4.out.frozen 5
              have g6' := HB4.out.frozen 6
              obtain ⟨W5, hW5⟩ : ∃ x, ((((((w4.setCell ⟨B, 1, none⟩ (.string n1)).setCell ⟨B, 2, none⟩ (.string n2)).setCell ⟨B, 3, none⟩ (.string n3)).setCell ⟨B, 4, none⟩ (.int .i64 r)).setCell ⟨B, 5, none⟩ (.int .i64 n)).setCell ⟨B, 6, none⟩ (.string x6)) = x := ⟨_, rfl⟩
              have HB5 := Lib.hid (show Blk W5 B 31 (reqC kd n1 n2 n3 r n x6) from by rw [← hW5]; exact (((((HB4.out.set 1 (.string n1)).set 2 (.string n2)).set 3 (.string n3)).set 4 (.int .i64 r)).set 5 (.int .i64 n)).set 6 (.string x6))
              have hg5 : w4.grownBy W5 (some B) := by rw [← hW5]; exact grown_set (grown_set (grown_set (grown_set (grown_set (grown_set (grown_refl w4 (some B)) 1 _) 2 _) 3 _) 4 _) 5 _) 6 _
              have HC5 := Lib.hid (HC4.out.kept hg5 (by have := HBC.out; simp; omega))
              have HG5 := Lib.hid (grown_into HG4.out hg5 (by have := HBC.out; omega))
              have HW5 := Lib.hid hW5
              have HNO := Lib.hid (fun (hq : b1 = false ∨ b2 = false ∨ S.toList ≠ p.toList) => show ¬ ReadT p from by
                rcases hq with hq | hq | hq
                · rintro ⟨m, tn, us, sp, r', n', tx, hp, hw⟩
                  obtain ⟨-, -, -, -, -, c4, -, -⟩ := words_write p m tn us sp r' n' tx hp hw
                  have h1 := hp.2.2.2.2.1.2
                  have := (HRn.out.of_dec (m := (r' : Int)) (by omega) (by omega) (by rw [← HXE.out.2.2.2.2.1]; exact c4)).2
                  rw [hq] at this; cases this
                · rintro ⟨m, tn, us, sp, r', n', tx, hp, hw⟩
                  obtain ⟨-, -, -, -, -, -, c5, -⟩ := words_write p m tn us sp r' n' tx hp hw
                  have h1 := hp.2.2.2.2.2.1.2
                  have := (HNn.out.of_dec (m := (n' : Int)) (by omega) (by omega) (by rw [← HXE.out.2.2.2.2.2.1]; exact c5)).2
                  rw [hq] at this; cases this
                · exact rres_no (text := p) (S := S) (kd := kd) (run := r) (num := n) (by rw [HXE.out.2.1, HXE.out.2.2.1, HXE.out.2.2.2.1, HXE.out.2.2.2.2.2.2, HNE.out.1, HNE.out.2.1, HNE.out.2.2]; exact HST.out) (by rw [HXE.out.1, HKD.out]) (fun m hm e => (HRn.out.of_dec (by omega) (by omega) (by rw [← HXE.out.2.2.2.2.1]; exact e)).1) (fun m hm e => (HNn.out.of_dec (by omega) (by omega) (by rw [← HXE.out.2.2.2.2.2.1]; exact e)).1) hq)
              have HP0 := Lib.hid (fun (hq : b1 = true) => show 0 < p.size from by
                have h1 := wordK_size 4 p
                rcases HRn.out with ⟨-, h2, -, -⟩ | ⟨h2, -⟩
                · rw [HXE.out.2.2.2.2.1, h2] at h1
                  have h3 := decI_pos r
                  omega
                · rw [hq] at h2; cases h2)
              clear hW5 hg5 HB4 HC4 HG4 HXE HKD HNE
              cases b1
              · have HRR := Lib.hid (rres_none (HNO.out (.inl rfl)))
                clear HNO HP0 HWR HST
                go_wp2_with (first | (rw [HW5.out]; refine wpList_store_blk rfl 31 _ _ rfl C (reqC 0 ⟨#[]⟩ ⟨#[]⟩ ⟨#[]⟩ 0 0 ⟨#[]⟩) Z 31 HC5.out infoReq (by rw [← HZE.out]) (reqC_one _ _ _ _ _ _ _) rfl rfl ?_; intro wz hbz hgz))
                exact ⟨rfl, _, results_blk Tryd.results10 _ _ C 31 _ _ _ hbz.out Tryd.underlying31 rfl infoReq rfl rfl, HRR.out, grown_into HG5.out hgz.out HBC.out.1⟩
              cases b2
              · have HRR := Lib.hid (rres_none (HNO.out (.inr (.inl rfl))))
                clear HNO HP0 HWR HST
                go_wp2_with (first | (rw [HW5.out]; refine wpList_store_blk rfl 31 _ _ rfl C (reqC 0 ⟨#[]⟩ ⟨#[]⟩ ⟨#[]⟩ 0 0 ⟨#[]⟩) Z 31 HC5.out infoReq (by rw [← HZE.out]) (reqC_one _ _ _ _ _ _ _) rfl rfl ?_; intro wz hbz hgz))
                exact ⟨rfl, _, results_blk Tryd.results10 _ _ C 31 _ _ _ hbz.out Tryd.underlying31 rfl infoReq rfl rfl, HRR.out, grown_into HG5.out hgz.out HBC.out.1⟩
              have HPS := Lib.hid (HP0.out rfl)
              go_wp2_with (first | (rw [HW5.out]; refine wpList_load_blk_if 31 _ rfl (by kernel_rfl) B (reqC kd n1 n2 n3 r n x6) 31 HB5.out _ Tryd.underlying31 rfl infoReq rfl ?_))
              refine (HWR.out W5).mono ?_
              rintro e w8 ⟨rfl, hg8⟩
              have HB8 := Lib.hid (HB5.out.kept hg8 (by simp))
              have HC8 := Lib.hid (HC5.out.kept hg8 (by simp))
              have HG8 := Lib.hid (grown_trans HG5.out hg8)
              clear hg8 HWR HB5 HC5 HG5 HW5
              by_cases hq : S.toList = p.toList
              · have hqb : (S.toList == p.toList) = true := by rw [beq_iff_eq]; exact hq
                have HRR := Lib.hid (rres_yes HST.out HPS.out hq)
                clear hq
                go_wp2_with (first | (refine wpList_load_blk rfl 31 _ rfl B (reqC kd n1 n2 n3 r n x6) 31 HB8.out _ Tryd.underlying31 rfl infoReq rfl ?_) | (refine wpList_store_blk rfl 31 _ _ rfl C (reqC kd n1 n2 n3 r n x6) Z 31 HC8.out infoReq (by rw [← HZE.out]; rfl) (reqC_one _ _ _ _ _ _ _) rfl rfl ?_; intro wz hbz hgz))
                exact ⟨rfl, _, results_blk Tryd.results10 _ _ C 31 _ _ _ hbz.out Tryd.underlying31 rfl infoReq rfl rfl, HRR.out, grown_into HG8.out hgz.out HBC.out.1⟩
              · have hqb : (S.toList == p.toList) = false := by rw [beq_eq_false_iff_ne]; exact hq
                have HRR := Lib.hid (rres_none (HNO.out (.inr (.inr hq))))
                clear hq
                go_wp2_with (first | (refine wpList_store_blk rfl 31 _ _ rfl C (reqC 0 ⟨#[]⟩ ⟨#[]⟩ ⟨#[]⟩ 0 0 ⟨#[]⟩) Z 31 HC8.out infoReq (by rw [← HZE.out]) (reqC_one _ _ _ _ _ _ _) rfl rfl ?_; intro wz hbz hgz))
                exact ⟨rfl, _, results_blk Tryd.results10 _ _ C 31 _ _ _ hbz.out Tryd.underlying31 rfl infoReq rfl rfl, HRR.out, grown_into HG8.out hgz.out HBC.out.1⟩
end Go.Proofs.YtecekbhkombnnaaDoor
