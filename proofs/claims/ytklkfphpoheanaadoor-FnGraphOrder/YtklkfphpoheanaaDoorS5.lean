/- The document's model of GraphOrder. -/
import Derived.Test.YtklkfphpoheanaaDoorS4
import Derived.Test.YtklkfphpoheanaaDoorO2
namespace Go.Proofs.YtklkfphpoheanaaDoor
open Go.RowKit

set_option maxRecDepth 100000 in
set_option maxHeartbeats 1000000 in
theorem l5order_any (w : World) (n : Nat) (hn : n ≤ 16) (ao : Option Addr) (cap : Nat) (E : List (Int × Int)) (hE : NLies w ao E) (hl : E.length ≤ 1048576) (hin : ∀ e ∈ E, In16 n e) :
    Calls Tryd.prog 26 #[.int .i64 (n : Int), .slice ao E.length cap] w fun e w' => ∃ v D, e = .returned v ∧ Row w' w.heap.size v (ints D) ∧ Chain (adj E) n D ∧ (∀ k, freeB (adj E) n D k = false) ∧ w.grownBy w' none := by
  have HE := Lib.hid hE
  have HFB := Lib.hid (fun D k hk => freeB_E n hn E hin D k hk)
  have HR0 := Lib.hid (show Row (w.alloc (.cells #[] 3)) w.heap.size (.slice (some ⟨w.heap.size, 0, none⟩) 0 0) (ints []) from Row.empty (Nat.le_refl _) (by simp))
  obtain ⟨A, hA⟩ : ∃ A, A = adj E := ⟨_, rfl⟩
  rw [← hA] at HFB ⊢
  obtain ⟨i3, hi3, hz0, hz1, hz2⟩ := info_parts info3
  clear hE hin hA
  go_enter Tryd.func26, Tryd.ntmps26
  go_wp2
  go_loopw [5] (fun lv wi => ∃ D, Row wi w.heap.size lv (ints D) ∧ Chain A n D ∧ w.heap.size ≤ wi.heap.size ∧ w.grownBy wi none) (fun lv _ => n - sliceLen lv)
  case atStart => exact ⟨[], HR0.out, Chain.nil, by simp, grown_alloc (grown_refl _ _) _⟩
  case round =>
    clear HR0
    obtain ⟨D, hr, hch, hsz, hg⟩ := hrel
    have HR := Lib.hid hr
    have HCH := Lib.hid hch
    have HG := Lib.hid hg
    have HSL := Lib.hid hr.slen
    have hDl := hch.len
    have HLN := Lib.hid (ints_len D)
    obtain ⟨ta, gs, cp, hv, -, hta, hcc, -⟩ := row_ints hr
    subst hv
    have HTA := Lib.hid hta
    have HCC := Lib.hid hcc
    have hDm : D.length ≤ 1048576 := by omega
    have HEW := Lib.hid (HE.out.kept hg)
    clear hr hch hg hta hcc
    go_wp2
    go_loopw [6, 7] (fun nx kk wi => ∃ r : Nat, r ≤ n ∧ kk = .int .i64 ((r : Int) - 1) ∧ wi = wr ∧ ((nx = .int .i64 (-1) ∧ ∀ j, r ≤ j → freeB A n D j = false) ∨ ∃ m : Nat, nx = .int .i64 (m : Int) ∧ r ≤ m ∧ m < n ∧ freeB A n D m = true ∧ ∀ j, r ≤ j → j < m → freeB A n D j = false)) (fun _ kk _ => (intOf kk + 1).toNat)
    case atStart =>
      refine ⟨n, Nat.le_refl _, rfl, rfl, .inl ⟨rfl, fun j hj => ?_⟩⟩
      cases hf : freeB A n D j
      · rfl
      · have := ((free_iff A n D j).1 hf).1; omega
    case round =>
      obtain ⟨r, hr, rfl, hw, hcase⟩ := hrel
      have HCASE := Lib.hid hcase
      subst hw
      clear hcase
      by_cases hr0 : r = 0
      · subst hr0
        rcases HCASE.out with ⟨rfl, hno⟩ | ⟨m, rfl, hm0, hmn, hmf, hmm⟩
        · have HFIN := Lib.hid (fun k => hno k (Nat.zero_le _))
          clear HCASE hno
          go_wp2
          go_ret
          exact ⟨_, D, rfl, HR.out, HCH.out, HFIN.out, HG.out⟩
        · have HCD := Lib.hid (Chain.snoc HCH.out hmf (fun j hj => hmm j (Nat.zero_le _) hj))
          have hD1 : D.length + 1 ≤ n := by have := HCD.out.len; simpa using this
          have hm0I : ¬ (m : Int) < 0 := by omega
          clear HCASE hmf hmm
          go_wp2_with (first | (at_builtin; refine wpList_append_row2 rfl _ _ 26 rfl 3 i3 (.int .i64 0) 8 Tryd.underlying26 hi3 hz0 hz1 hz2 rfl w.heap.size _ (ints D) rfl (HR.out.alloc _) ⟨_, 0, none⟩ 1 1 (ints [(m : Int)]) rfl rfl (news_new _ 3 (ints [(m : Int)])) (ints_one _) (by rw [HLN.out]; unfold maxLen; omega) (by rw [HLN.out]; omega) (by simp; omega) ?_; intro lv2 w2 hrow2 hg2 hown2))
          go_roundw
          case rel =>
            exact ⟨D ++ [(m : Int)], by rw [ints_app]; exact hrow2.out, HCD.out, Nat.le_trans (Nat.le_trans HG.out.size (World.grownBy_alloc _ _ none).size) hg2.out.size, grown_own (grown_alloc HG.out _) hg2.out (fun q hq => (HR.out.lt q hq).1)⟩
          case measure =>
            have h1 := (show Row w2 w.heap.size lv2 (ints (D ++ [(m : Int)])) from by rw [ints_app]; exact hrow2.out).slen
            simp only [List.length_append, List.length_cons, List.length_nil] at h1
            have h2 : sliceLen (Value.slice ta D.length cp) = D.length := rfl
            rw [h1, h2]
            omega
      · obtain ⟨q, hq⟩ : ∃ q, q + 1 = r := ⟨r - 1, by omega⟩
        have e1 : (r : Int) - 1 = (q : Int) := by omega
        have hqn : q < n := by omega
        have HQ := Lib.hid hq
        have HFQ := Lib.hid (HFB.out D q hqn)
        rw [e1]
        clear hq e1
        cases c1 : decide ((q : Int) ∈ D)
        · cases c2 : decide (FreeE E (q : Int) D)
          · rw [c1, c2] at HFQ
            have C1 := Lib.hid c1
            have C2 := Lib.hid c2
            clear c1 c2
            go_wp2_with (first | (go_at_call 28; refine (l5has_any _ D _ gs cp (by exact HTA.out) (by exact HCC.out) hDm (q : Int)).mono ?_; rw [C1.out]; rintro e w' ⟨rfl, hw⟩; have hw := hw.symm; subst hw) | (go_at_call 41; refine (l5free_any _ ao cap E (by exact HEW.out) hl (q : Int) D _ gs cp (by exact HTA.out) (by exact HCC.out) hDm).mono ?_; rw [C2.out]; rintro e w' ⟨rfl, hw⟩; have hw := hw.symm; subst hw))
            refine ⟨⟨q, by omega, rfl, trivial, ?_⟩, by simp [intOf]⟩
            have hq := HQ.out
            rcases HCASE.out with ⟨h1, h2⟩ | ⟨m, h1, h2, h3, h4, h5⟩
            · refine .inl ⟨h1, fun j hj => ?_⟩
              by_cases hjq : j = q
              · subst hjq; exact HFQ.out
              · exact h2 j (by omega)
            · refine .inr ⟨m, h1, by omega, h3, h4, fun j hj hjm => ?_⟩
              by_cases hjq : j = q
              · subst hjq; exact HFQ.out
              · exact h5 j (by omega) hjm
          · rw [c1, c2] at HFQ
            have C1 := Lib.hid c1
            have C2 := Lib.hid c2
            clear c1 c2
            go_wp2_with (first | (go_at_call 28; refine (l5has_any _ D _ gs cp (by exact HTA.out) (by exact HCC.out) hDm (q : Int)).mono ?_; rw [C1.out]; rintro e w' ⟨rfl, hw⟩; have hw := hw.symm; subst hw) | (go_at_call 41; refine (l5free_any _ ao cap E (by exact HEW.out) hl (q : Int) D _ gs cp (by exact HTA.out) (by exact HCC.out) hDm).mono ?_; rw [C2.out]; rintro e w' ⟨rfl, hw⟩; have hw := hw.symm; subst hw))
            exact ⟨⟨q, by omega, rfl, trivial, .inr ⟨q, rfl, Nat.le_refl _, hqn, HFQ.out, fun j hj hjm => absurd hjm (by omega)⟩⟩, by simp [intOf]⟩
        · rw [c1] at HFQ
          have C1 := Lib.hid c1
          clear c1
          go_wp2_with (first | (go_at_call 28; refine (l5has_any _ D _ gs cp (by exact HTA.out) (by exact HCC.out) hDm (q : Int)).mono ?_; rw [C1.out]; rintro e w' ⟨rfl, hw⟩; have hw := hw.symm; subst hw) | (go_at_call 41; refine (l5free_any _ ao cap E (by exact HEW.out) hl (q : Int) D _ gs cp (by exact HTA.out) (by exact HCC.out) hDm).mono ?_; rw [C2.out]; rintro e w' ⟨rfl, hw⟩; have hw := hw.symm; subst hw))
          refine ⟨⟨q, by omega, rfl, trivial, ?_⟩, by simp [intOf]⟩
          have hq := HQ.out
          rcases HCASE.out with ⟨h1, h2⟩ | ⟨m, h1, h2, h3, h4, h5⟩
          · refine .inl ⟨h1, fun j hj => ?_⟩
            by_cases hjq : j = q
            · subst hjq; exact HFQ.out
            · exact h2 j (by omega)
          · refine .inr ⟨m, h1, by omega, h3, h4, fun j hj hjm => ?_⟩
            by_cases hjq : j = q
            · subst hjq; exact HFQ.out
            · exact h5 j (by omega) hjm

set_option maxRecDepth 100000 in
set_option maxHeartbeats 1000000 in
theorem specOrder_any (w : World) (n : Int) (hn1 : -9223372036854775808 ≤ n) (hn2 : n ≤ 9223372036854775807) (ao : Option Addr) (cap : Nat) (E : List (Int × Int)) (hE : NLies w ao E) (hl : E.length ≤ 1048576) :
    Calls Tryd.prog 8 #[.int .i64 n, .slice ao E.length cap] w fun e w' => ∃ v b L, e = .returned (.tuple #[v, .bool b]) ∧ Row w' w.heap.size v (ints L) ∧ OrdSpec n E L b ∧ w.grownBy w' none := by
  have HOK := Lib.hid (l5ok_any w n hn1 hn2 ao cap E hE hl)
  have HE0 := Lib.hid (show Row (w.alloc (.cells #[] 3)) w.heap.size (.slice (some ⟨w.heap.size, 0, none⟩) 0 0) (ints []) from Row.empty (Nat.le_refl _) (by simp))
  by_cases ho : OkG n E
  · have HD := Lib.hid (decide_eq_true ho)
    rw [HD.out] at HOK
    have HOO := Lib.hid ho
    obtain ⟨m, rfl⟩ := Int.eq_ofNat_of_zero_le ho.1
    have hm16 : m ≤ 16 := by have := ho.2.1; omega
    have HORD := Lib.hid (l5order_any w m hm16 ao cap E hE hl ho.2.2)
    clear ho hE HD
    go_enter Tryd.func8, Tryd.ntmps8
    go_wp2_with (first | (go_at_call 25; refine HOK.out.mono ?_; rintro e w' ⟨rfl, hw⟩; have hw := hw.symm; subst hw))
    refine HORD.out.mono ?_
    rintro e w3 ⟨v, D, rfl, hrow, hch, hfin, hg3⟩
    have HG3 := Lib.hid hg3
    have HRW := Lib.hid hrow
    have HCH := Lib.hid hch
    have HFI := Lib.hid hfin
    have hs3 := hg3.size
    obtain ⟨ta, gq, cq, hvq, -⟩ := row_ints hrow
    subst hvq
    clear hrow hch hfin hg3 HORD HOK HE0
    by_cases hlt : (D.length : Int) < (m : Int)
    · go_wp2
      go_ret2
      exact ⟨_, _, [], rfl, Row.empty hs3 (by simp), .inr ⟨HOO.out, D, HCH.out, HFI.out, .inl ⟨by simp; omega, rfl, rfl⟩⟩, grown_alloc HG3.out _⟩
    · have hge : (m : Int) ≤ (D.length : Int) := by omega
      go_wp2
      go_ret2
      exact ⟨_, _, D, rfl, HRW.out, .inr ⟨HOO.out, D, HCH.out, HFI.out, .inr ⟨by simp; omega, rfl, rfl⟩⟩, HG3.out⟩
  · have HD := Lib.hid (decide_eq_false ho)
    rw [HD.out] at HOK
    have HOO := Lib.hid ho
    clear ho hE HD
    go_enter Tryd.func8, Tryd.ntmps8
    go_wp2_with (first | (go_at_call 25; refine HOK.out.mono ?_; rintro e w' ⟨rfl, hw⟩; have hw := hw.symm; subst hw))
    go_ret2
    exact ⟨_, _, [], rfl, HE0.out, .inl ⟨HOO.out, rfl, rfl⟩, grown_alloc (grown_refl _ _) _⟩

end Go.Proofs.YtklkfphpoheanaaDoor
