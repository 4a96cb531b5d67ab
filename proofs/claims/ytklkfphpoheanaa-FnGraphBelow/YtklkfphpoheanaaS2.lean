/- The document's model of GraphBelow. -/
import Derived.Test.YtklkfphpoheanaaP2
namespace Go.Proofs.Ytklkfphpoheanaa
open Go.RowKit

theorem Row.empty {w : World} {base g : Nat} (hb : base ≤ g) (hl : g < w.heap.size) : Row w base (.slice (some ⟨g, 0, none⟩) 0 0) (ints []) :=
  .inr ⟨g, 0, rfl, hb, hl, Nat.le_refl _, fun _ hj => absurd hj (Nat.not_lt_zero _), fun _ hj => absurd hj (Nat.not_lt_zero _)⟩
theorem follows : Try.prog.follows .mixedOrders = true := by kernel_rfl

set_option maxRecDepth 100000 in
set_option maxHeartbeats 1000000 in
theorem specBelow_yes (w : World) (n : Nat) (hn : n ≤ 16) (ao : Option Addr) (cap : Nat) (E : List (Int × Int)) (hE : NLies w ao E) (hl : E.length ≤ 1048576) (hin : ∀ e ∈ E, In16 n e) (one : Nat) (h1 : one < n) :
    Calls Try.prog 9 #[.int .i64 (n : Int), .slice ao E.length cap, .int .i64 (one : Int)] w fun e w' => ∃ v, e = .returned v ∧ Row w' w.heap.size v (ints (belowL (adj E) n one)) ∧ w.grownBy w' none := by
  obtain ⟨R, hR⟩ : ∃ R, R = belowL (adj E) n one := ⟨_, rfl⟩
  rw [← hR]
  have HR := Lib.hid hR
  have HE := Lib.hid hE
  have HIN := Lib.hid hin
  have HOK := Lib.hid (l5ok_any w n (by omega) (by omega) ao cap E hE hl)
  have HDO := Lib.hid (show decide (OkG n E) = true from decide_eq_true ⟨by omega, by omega, hin⟩)
  rw [HDO.out] at HOK
  have hd : decide (0 ≤ (one : Int) ∧ (one : Int) ≤ (n : Int) - 1) = true := by simp; omega
  have hd2 : decide ((one : Int) ≤ (n : Int) - 1) = true := by simp; omega
  obtain ⟨i3, hi3, hz0, hz1, hz2⟩ := info_parts info3
  have HB := Lib.hid (Bfs.start E one n (by omega) (by omega))
  have HR0 := Lib.hid (Row.lit w 3 (ints [(one : Int)]))
  clear hR hE hin
  go_enter Try.func9, Try.ntmps9
  go_wp2_with (first | (go_at_call 27; refine HOK.out.mono ?_; rintro e w' ⟨rfl, hw⟩; have hw := hw.symm; subst hw) | (go_at_call 28; refine (in_any _ _ _ _).mono ?_; rintro e w' ⟨rfl, hw⟩; have hw := hw.symm; subst hw))
  go_loopw [7, 8] (fun v i wr => ∃ (X : List Int) (j : Nat), j ≤ X.length ∧ i = .int .i64 j ∧ Row wr w.heap.size v (ints X) ∧ Bfs E one n X j 0 ∧ w.grownBy wr none) (fun _ i _ => n - (intOf i).toNat)
  case atStart => exact ⟨[(one : Int)], 0, by simp, rfl, HR0.out, HB.out, grown_alloc (grown_refl _ _) _⟩
  case round =>
    obtain ⟨X, j, hj, rfl, hrow, hb, hg⟩ := hrel
    have HRW := Lib.hid hrow
    have HBF := Lib.hid hb
    have HG := Lib.hid hg
    have hXn := nodup_le n X hb.nd hb.lt
    obtain ⟨ta, gs, cp, hv, hcp, hta, hcc, hfr, hbs, hob⟩ := row_ints hrow
    subst hv
    clear hrow hb hg HB HR0
    by_cases hlt : j < X.length
    · have hjI : (j : Int) < X.length := by omega
      go_wp2
      go_loopw [7, 9] (fun v i wi => ∃ (Y : List Int) (k : Nat), k ≤ E.length ∧ i = .int .i64 k ∧ j < Y.length ∧ Row wi w.heap.size v (ints Y) ∧ Bfs E one n Y j k ∧ w.grownBy wi none) (fun _ i _ => E.length - (intOf i).toNat)
      case atStart => exact ⟨X, 0, Nat.zero_le _, rfl, hlt, HRW.out, HBF.out, HG.out⟩
      case round =>
        clear HRW HBF HG hXn hcp hta hcc hfr hbs hob hlt hjI hj
        obtain ⟨Y, k, hk, rfl, hjY, hrow, hb, hg⟩ := hrel
        have HRW := Lib.hid hrow
        have HBF := Lib.hid hb
        have HG := Lib.hid hg
        have hYn := nodup_le n Y hb.nd hb.lt
        obtain ⟨ta, gs, cp, hv, hcp, hta, hcc, hfr, hbs, hob⟩ := row_ints hrow
        subst hv
        have hta' := hta (by omega)
        subst hta'
        have hjI : (j : Int) < Y.length := by omega
        have hsz := hg.size
        clear hrow hb hg
        by_cases hlt : k < E.length
        · rcases HE.out with h00 | ⟨ab, o, rfl, hc⟩
          · omega
          obtain ⟨f, hf⟩ : ∃ f, f = (E.getD k (0, 0)).1 := ⟨_, rfl⟩
          obtain ⟨g, hg⟩ : ∃ g, g = (E.getD k (0, 0)).2 := ⟨_, rfl⟩
          have D0 := Lib.hid (HG.out.cell (hc k hlt).1 (by simp))
          have D1 := Lib.hid (HG.out.cell (hc k hlt).2 (by simp))
          rw [← hf, Nat.mul_comm] at D0
          rw [← hg, Nat.mul_comm] at D1
          obtain ⟨x, hx⟩ : ∃ x, x = Y.getD j 0 := ⟨_, rfl⟩
          have D2 := Lib.hid (hcc j hjY)
          rw [← hx] at D2
          have HF := Lib.hid hf
          have HGG := Lib.hid hg
          have HX := Lib.hid hx
          have HCC := Lib.hid hcc
          have hkI : (k : Int) < E.length := by omega
          clear hf hg hx hc hcc hfr hbs hob hta
          by_cases c1 : f = x
          · have c1b : (f == x) = true := by simp [c1]
            have C1 := Lib.hid c1
            have d0 := D0.out
            have d1 := D1.out
            have d2 := D2.out
            have hYm : Y.length ≤ 1048576 := by omega
            clear c1
            by_cases c2 : g ∈ Y
            · have c2d : decide (g ∈ Y) = true := by simp [c2]
              have C2 := Lib.hid c2
              clear c2
              go_wp2
              go_quiet ((go_at_call 29; exact Calls.quiet_of_same (l5has_any _ Y _ gs cp (fun _ => rfl) (by exact HCC.out) hYm g)))
              go_wp2
              exact ⟨⟨Y, k + 1, by omega, by go_num, hjY, HRW.out.drewN _, HBF.out.pass hlt (fun _ => by rw [← HGG.out]; exact C2.out), grown_drewN HG.out _⟩, by simp [intOf]; omega⟩
            · have c2d : decide (g ∈ Y) = false := by simp [c2]
              have C2 := Lib.hid c2
              have HADD := Lib.hid (HBF.out.add HIN.out hjY hlt (by rw [← HF.out, ← HX.out]; exact C1.out) (by rw [← HGG.out]; exact C2.out))
              rw [← HGG.out] at HADD
              have HLN := Lib.hid (ints_len Y)
              have hYL : (Y ++ [g]).length = Y.length + 1 := by simp
              clear c2
              go_wp2
              go_quiet ((go_at_call 29; exact Calls.quiet_of_same (l5has_any _ Y _ gs cp (fun _ => rfl) (by exact HCC.out) hYm g)))
              go_wp2_with (first | (at_builtin; refine wpList_append_row rfl _ _ 26 rfl 3 i3 (.int .i64 0) 8 Try.underlying26 hi3 hz0 hz1 hz2 rfl w.heap.size _ (ints Y) rfl ((HRW.out.drewN _).alloc _) ⟨_, 0, none⟩ 1 1 (ints [g]) rfl rfl (news_new _ 3 (ints [g])) (ints_one _) (by rw [HLN.out]; unfold maxLen; omega) (by rw [HLN.out]; omega) (by simp; omega) ?_; intro v1 w5 hrow1 hg5))
              refine ⟨⟨Y ++ [g], k + 1, by omega, by go_num, by omega, by rw [ints_app]; exact hrow1.out, HADD.out, ?_⟩, by simp [intOf]; omega⟩
              exact grown_own (grown_alloc (grown_drewN HG.out _) _) hg5.out (fun q hq => (HRW.out.lt q hq).1)
          · have c1b : (f == x) = false := by simp [c1]
            have C1 := Lib.hid c1
            have d0 := D0.out
            have d2 := D2.out
            clear c1
            go_wp2
            go_quiet (fail)
            go_wp2
            exact ⟨⟨Y, k + 1, by omega, by go_num, hjY, HRW.out.drewN _, HBF.out.pass hlt (fun h => absurd (by rw [HF.out, HX.out]; exact h) C1.out), grown_drewN HG.out _⟩, by simp [intOf]; omega⟩
        · obtain rfl : k = E.length := by omega
          go_wp2
          exact ⟨⟨Y, j + 1, by omega, by go_num, HRW.out, HBF.out.next, HG.out⟩, by simp [intOf]; omega⟩
    · obtain rfl : j = X.length := by omega
      have HCC := Lib.hid hcc
      have HTA := Lib.hid hta
      have hXm : X.length ≤ 1048576 := by omega
      have hX0 : 0 < X.length := List.length_pos_of_mem HBF.out.head
      have hsz := HG.out.size
      obtain ⟨zb, hzb⟩ : ∃ zb, zb = wr.heap.size := ⟨_, rfl⟩
      have hgsz : gs < zb := by rw [hzb]; exact (hbs hX0).2
      have hsz2 : w.heap.size ≤ zb := by rw [hzb]; exact hsz
      have HZB := Lib.hid hzb
      have HDONE := Lib.hid (fun y => HBF.out.done y)
      clear hcc hta hfr hbs hob hcp HBF hzb hsz
      go_wp2
      go_loopw [11, 12] (fun b i wi => ∃ (k : Nat), k ≤ E.length ∧ i = .int .i64 k ∧ b = .bool ((E.take k).any fun e => decide (e.2 = (one : Int)) && decide (e.1 ∈ X)) ∧ zb < wi.heap.size ∧ wr.grownBy wi none) (fun _ i _ => E.length - (intOf i).toNat)
      case atStart => exact ⟨0, Nat.zero_le _, rfl, rfl, by rw [HZB.out]; simp, grown_alloc (grown_refl _ _) _⟩
      case round =>
        obtain ⟨k, hk, rfl, rfl, hz, hg⟩ := hrel
        have HG3 := Lib.hid hg
        clear hg
        by_cases hlt : k < E.length
        · rcases HE.out with h00 | ⟨ab, o, rfl, hc⟩
          · omega
          obtain ⟨f, hf⟩ : ∃ f, f = (E.getD k (0, 0)).1 := ⟨_, rfl⟩
          obtain ⟨g, hg⟩ : ∃ g, g = (E.getD k (0, 0)).2 := ⟨_, rfl⟩
          have d0 := HG3.out.cell (HG.out.cell (hc k hlt).1 (by simp)) (by simp)
          have d1 := HG3.out.cell (HG.out.cell (hc k hlt).2 (by simp)) (by simp)
          rw [← hf, Nat.mul_comm] at d0
          rw [← hg, Nat.mul_comm] at d1
          have HANY := Lib.hid (any_take E (fun e => decide (e.2 = (one : Int)) && decide (e.1 ∈ X)) k hlt)
          simp only [← hf, ← hg] at HANY
          have hkI : (k : Int) < E.length := by omega
          have HCW := Lib.hid (fun j hj => HG3.out.cell (HCC.out j hj) (by simp))
          clear hf hg hc
          generalize ((E.take k).any fun e => decide (e.2 = (one : Int)) && decide (e.1 ∈ X)) = B at *
          cases B
          · by_cases c1 : g = (one : Int)
            · have c1b : (g == (one : Int)) = true := by simp [c1]
              rw [decide_eq_true c1] at HANY
              clear c1
              cases c2 : decide (f ∈ X)
              · rw [c2] at HANY
                go_wp2_with (first | (go_at_call 29; refine (l5has_any _ X _ gs cp (by exact HTA.out) (by exact HCW.out) hXm f).mono ?_; rw [c2]; rintro e w' ⟨rfl, hw⟩; have hw := hw.symm; subst hw))
                exact ⟨⟨k + 1, by omega, by go_num, by rw [HANY.out]; rfl, hz, HG3.out⟩, by simp [intOf]; omega⟩
              · rw [c2] at HANY
                go_wp2_with (first | (go_at_call 29; refine (l5has_any _ X _ gs cp (by exact HTA.out) (by exact HCW.out) hXm f).mono ?_; rw [c2]; rintro e w' ⟨rfl, hw⟩; have hw := hw.symm; subst hw))
                exact ⟨⟨k + 1, by omega, by go_num, by rw [HANY.out]; rfl, hz, HG3.out⟩, by simp [intOf]; omega⟩
            · have c1b : (g == (one : Int)) = false := by simp [c1]
              rw [decide_eq_false c1] at HANY
              clear c1
              go_wp2
              exact ⟨⟨k + 1, by omega, by go_num, by rw [HANY.out]; rfl, hz, HG3.out⟩, by simp [intOf]; omega⟩
          · go_wp2
            exact ⟨⟨k + 1, by omega, by go_num, by rw [HANY.out]; rfl, hz, HG3.out⟩, by simp [intOf]; omega⟩
        · obtain rfl : k = E.length := by omega
          rw [List.take_length]
          have HDN := Lib.hid (show R = filtL (fun j => decide ((j : Int) ∈ X) && (((j : Int) != (one : Int)) || E.any fun e => decide (e.2 = (one : Int)) && decide (e.1 ∈ X))) n from by
            rw [HR.out, belowL]
            refine filtL_congr _ _ _ (fun y _ => ?_)
            rw [Bool.eq_iff_iff, below_bit n hn E HIN.out one y h1, HDONE.out (y : Int)])
          generalize (E.any fun e => decide (e.2 = (one : Int)) && decide (e.1 ∈ X)) = B at *
          clear HDONE HR
          go_wp2
          go_loopw [10, 13] (fun v i wi => ∃ k : Nat, k ≤ n ∧ i = .int .i64 k ∧ Row wi zb v (ints (filtL (fun j => decide ((j : Int) ∈ X) && (((j : Int) != (one : Int)) || B)) k)) ∧ (∀ j, j < X.length → wi.cell? ⟨gs, j, none⟩ = some (.int .i64 (X.getD j 0))) ∧ zb < wi.heap.size ∧ w.grownBy wi none) (fun _ i _ => n - (intOf i).toNat)
          case atStart => exact ⟨0, Nat.zero_le _, rfl, Row.empty (by rw [HZB.out]; exact Nat.le_refl _) (by rw [← HZB.out]; exact hz), fun j hj => HG3.out.cell (HCC.out j hj) (by simp), hz, grown_trans HG.out HG3.out⟩
          case round =>
            clear HG HG3 HCC hz
            obtain ⟨k, hk, rfl, hrow, hcx, hszr, hg⟩ := hrel
            have HRW := Lib.hid hrow
            have HCX := Lib.hid hcx
            have HG := Lib.hid hg
            clear hrow hcx hg
            by_cases hlt : k < n
            · have hkI : (k : Int) < n := by omega
              have HS0 := filtL_succ (fun j => decide ((j : Int) ∈ X) && (((j : Int) != (one : Int)) || B)) k
              have hfl := filtL_len (fun j => decide ((j : Int) ∈ X) && (((j : Int) != (one : Int)) || B)) k
              have HS := Lib.hid (show (decide ((k : Int) ∈ X) && (((k : Int) != (one : Int)) || B)) = false → filtL (fun j => decide ((j : Int) ∈ X) && (((j : Int) != (one : Int)) || B)) (k + 1) = filtL (fun j => decide ((j : Int) ∈ X) && (((j : Int) != (one : Int)) || B)) k from fun h => by rw [HS0, if_neg (by rw [h]; decide), List.append_nil])
              have HY := Lib.hid (show (decide ((k : Int) ∈ X) && (((k : Int) != (one : Int)) || B)) = true → filtL (fun j => decide ((j : Int) ∈ X) && (((j : Int) != (one : Int)) || B)) (k + 1) = filtL (fun j => decide ((j : Int) ∈ X) && (((j : Int) != (one : Int)) || B)) k ++ [(k : Int)] from fun h => by rw [HS0, if_pos h])
              clear HS0
              generalize filtL (fun j => decide ((j : Int) ∈ X) && (((j : Int) != (one : Int)) || B)) k = F at *
              have HLN := Lib.hid (ints_len F)
              cases c1 : decide ((k : Int) ∈ X)
              · go_wp2_with (first | (go_at_call 29; refine (l5has_any _ X _ gs cp (by exact HTA.out) (by exact HCX.out) hXm (k : Int)).mono ?_; rw [c1]; rintro e w' ⟨rfl, hw⟩; have hw := hw.symm; subst hw))
                exact ⟨⟨k + 1, by omega, by go_num, by rw [HS.out (by simp [c1])]; exact HRW.out, HCX.out, hszr, HG.out⟩, by simp [intOf]; omega⟩
              · by_cases c2 : (k : Int) = (one : Int)
                · have c2b : ((k : Int) != (one : Int)) = false := by simp [c2]
                  clear c2
                  cases B
                  · go_wp2_with (first | (go_at_call 29; refine (l5has_any _ X _ gs cp (by exact HTA.out) (by exact HCX.out) hXm (k : Int)).mono ?_; rw [c1]; rintro e w' ⟨rfl, hw⟩; have hw := hw.symm; subst hw))
                    exact ⟨⟨k + 1, by omega, by go_num, by rw [HS.out (by simp [c2b])]; exact HRW.out, HCX.out, hszr, HG.out⟩, by simp [intOf]; omega⟩
                  · go_wp2_with (first | (go_at_call 29; refine (l5has_any _ X _ gs cp (by exact HTA.out) (by exact HCX.out) hXm (k : Int)).mono ?_; rw [c1]; rintro e w' ⟨rfl, hw⟩; have hw := hw.symm; subst hw) | (at_builtin; refine wpList_append_row rfl _ _ 26 rfl 3 i3 (.int .i64 0) 8 Try.underlying26 hi3 hz0 hz1 hz2 rfl zb _ (ints F) rfl (HRW.out.alloc _) ⟨_, 0, none⟩ 1 1 (ints [(k : Int)]) rfl rfl (news_new _ 3 (ints [(k : Int)])) (ints_one _) (by rw [HLN.out]; unfold maxLen; omega) (by rw [HLN.out]; omega) (by simp; omega) ?_; intro v1 w5 hrow1 hg5))
                    have HKEEP := fun j hj => hg5.out.cell ((World.grownBy_alloc wr _ none).cell (HCX.out j hj) (by simp)) (fun e => by have := (HRW.out.lt gs e.symm).1; omega)
                    refine ⟨⟨k + 1, by omega, by go_num, by rw [HY.out (by simp [c1]), ints_app]; exact hrow1.out, HKEEP, ?_, ?_⟩, by simp [intOf]; omega⟩
                    · have := hg5.out.size; simp at this; omega
                    · exact grown_own (grown_alloc HG.out _) hg5.out (fun q hq => by have := (HRW.out.lt q hq).1; omega)
                · have c2b : ((k : Int) != (one : Int)) = true := by simp [c2]
                  clear c2
                  go_wp2_with (first | (go_at_call 29; refine (l5has_any _ X _ gs cp (by exact HTA.out) (by exact HCX.out) hXm (k : Int)).mono ?_; rw [c1]; rintro e w' ⟨rfl, hw⟩; have hw := hw.symm; subst hw) | (at_builtin; refine wpList_append_row rfl _ _ 26 rfl 3 i3 (.int .i64 0) 8 Try.underlying26 hi3 hz0 hz1 hz2 rfl zb _ (ints F) rfl (HRW.out.alloc _) ⟨_, 0, none⟩ 1 1 (ints [(k : Int)]) rfl rfl (news_new _ 3 (ints [(k : Int)])) (ints_one _) (by rw [HLN.out]; unfold maxLen; omega) (by rw [HLN.out]; omega) (by simp; omega) ?_; intro v1 w5 hrow1 hg5))
                  have HKEEP := fun j hj => hg5.out.cell ((World.grownBy_alloc wr _ none).cell (HCX.out j hj) (by simp)) (fun e => by have := (HRW.out.lt gs e.symm).1; omega)
                  refine ⟨⟨k + 1, by omega, by go_num, by rw [HY.out (by simp [c1, c2b]), ints_app]; exact hrow1.out, HKEEP, ?_, ?_⟩, by simp [intOf]; omega⟩
                  · have := hg5.out.size; simp at this; omega
                  · exact grown_own (grown_alloc HG.out _) hg5.out (fun q hq => by have := (HRW.out.lt q hq).1; omega)
            · obtain rfl : k = n := by omega
              go_wp2
              go_ret
              exact ⟨_, rfl, by rw [HDN.out]; exact HRW.out.base hsz2, HG.out⟩

end Go.Proofs.Ytklkfphpoheanaa
