/- impl's order. -/
import Derived.Test.YtklkfphpoheanaaDoorO0
namespace Go.Proofs.YtklkfphpoheanaaDoor
open Go.RowKit

set_option maxRecDepth 100000 in
set_option maxHeartbeats 1000000 in
theorem order_any (w : World) (n : Nat) (A : List Nat) (hn : n ≤ 16) (hA : A.length = 16) (hAl : ∀ a ∈ A, a < 65536) : Calls Tryd.prog 24 #[.agg (gCells n A).toArray] w fun e w' => ∃ v D, e = .returned v ∧ Row w' w.heap.size v (ints D) ∧ Chain A n D ∧ (∀ k, freeB A n D k = false) ∧ w.grownBy w' none := by
  have HBG := Lib.hid (show Blk ((w.alloc (.cells (gCells n A).toArray 49)).alloc (.cells #[.slice none 0 0] 65)) w.heap.size 49 (gCells n A) from (Blk.new w 49 (gCells n A)).alloc _)
  have HBH := Lib.hid (show Blk ((w.alloc (.cells (gCells n A).toArray 49)).alloc (.cells #[.slice none 0 0] 65)) (w.heap.size + 1) 65 [.slice none 0 0] from by
    have := Blk.new (w.alloc (.cells (gCells n A).toArray 49)) 65 [.slice none 0 0]
    simpa using this)
  have HG0 := Lib.hid (show w.grownBy ((w.alloc (.cells (gCells n A).toArray 49)).alloc (.cells #[.slice none 0 0] 65)) none from grown_alloc (grown_alloc (grown_refl _ _) _) _)
  have hsz0 : ((w.alloc (.cells (gCells n A).toArray 49)).alloc (.cells #[.slice none 0 0] 65)).heap.size = w.heap.size + 2 := by simp
  have c0 : ((w.alloc (.cells (gCells n A).toArray 49)).alloc (.cells #[.slice none 0 0] 65)).cell? ⟨w.heap.size, 0, none⟩ = some (.int .i64 (n : Int)) := HBG.out.cell rfl
  have HSZ := Lib.hid hsz0
  have HAL := Lib.hid hAl
  clear hsz0 hAl
  generalize (gCells n A).toArray = C at HBG HBH HG0 HSZ c0 ⊢
  go_enter Tryd.func24, Tryd.ntmps24
  go_wp2
  go_loopw [11] (fun i wr => ∃ (t : Nat) (v : Value) (H : List Int), t ≤ n ∧ i = .int .i64 t ∧ Blk wr w.heap.size 49 (gCells n A) ∧ Blk wr (w.heap.size + 1) 65 [v] ∧ Row wr (w.heap.size + 2) v (ints H) ∧ HeapL H H.length ∧ H.Nodup ∧ (∀ y, y ∈ H ↔ ∃ o : Nat, o < t ∧ y = (o : Int) ∧ A.getD o 0 = 0) ∧ w.heap.size + 2 ≤ wr.heap.size ∧ w.grownBy wr none) (fun i _ => n - (intOf i).toNat)
  case atStart => exact ⟨0, _, [], Nat.zero_le _, rfl, HBG.out, HBH.out, Row.nil _ _, heap_nil, by simp, by simp, by rw [HSZ.out]; exact Nat.le_refl _, HG0.out⟩
  case round =>
    clear c0 HBG HBH HG0 HSZ
    obtain ⟨t, v, H, ht, rfl, hbg, hbh, hr, hh, hnd, hmem, hsz, hg⟩ := hrel
    have HBG := Lib.hid hbg
    have HBH := Lib.hid hbh
    have HR := Lib.hid hr
    have HH := Lib.hid hh
    have HND := Lib.hid hnd
    have HME := Lib.hid hmem
    have HG := Lib.hid hg
    have hHn := nodup_le t H hnd (fun x hx => by obtain ⟨o, ho, rfl, _⟩ := (hmem x).1 hx; omega)
    clear hbh hr hh hnd hmem hg
    by_cases hlt : t < n
    · have htI : (t : Int) < n := by omega
      have ht16 : (t : Int) < 16 := by omega
      obtain ⟨a, ha⟩ : ∃ a, a = A.getD t 0 := ⟨_, rfl⟩
      have d1 : wr.cell? ⟨w.heap.size, 1 + t, none⟩ = some (.int .u16 (a : Int)) := by
        have := range_g hbg t _ (aCells_get A t (by omega))
        rw [← ha] at this
        exact this
      have HA := Lib.hid ha
      clear hbg ha
      by_cases ha0 : a = 0
      · have ha0b : ((a : Int) == 0) = true := by simp [ha0]
        have HA0 := Lib.hid ha0
        clear ha0
        go_wp2_with fail
        refine (Push_any wr (w.heap.size + 1) (w.heap.size + 2) v H (t : Int) (by omega) HBH.out HR.out HH.out (by omega) hsz).mono ?_
        rintro e w1 ⟨⟨u, rfl⟩, v', H', hB1, hR1, hh1, hp1, hF1, hO1⟩
        have hvb : ∀ q, v.ownBlock = some q → w.heap.size + 2 ≤ q := fun q hq => (HR.out.lt q hq).1
        have HFIN := Lib.hid (show Blk w1 w.heap.size 49 (gCells n A) ∧ Blk w1 (w.heap.size + 1) 65 [v'] ∧ Row w1 (w.heap.size + 2) v' (ints H') ∧ HeapL H' H'.length ∧ H'.Nodup ∧ (∀ y, y ∈ H' ↔ ∃ o : Nat, o < t + 1 ∧ y = (o : Int) ∧ A.getD o 0 = 0) ∧ w.heap.size + 2 ≤ w1.heap.size ∧ w.grownBy w1 none from by
          refine ⟨hF1.blk HBG.out (not_hpX (by omega) (fun e => by have := hvb _ e; omega)), hB1, hR1, hh1, ?_, fun y => ?_, Nat.le_trans hsz hF1.size, hF1.grown HG.out (fun i hi => not_hpX (by omega) (fun e => by have := hvb _ e; omega))⟩
          · rw [hp1.nodup_iff, List.nodup_append]
            refine ⟨HND.out, by simp, fun x hx y hy => ?_⟩
            simp at hy
            subst hy
            intro e
            subst e
            obtain ⟨o, ho, e2, _⟩ := (HME.out _).1 hx
            omega
          · rw [hp1.mem_iff, List.mem_append, HME.out y]
            constructor
            · rintro (⟨o, ho, r⟩ | h1)
              · exact ⟨o, by omega, r⟩
              · simp at h1
                exact ⟨t, by omega, h1, by rw [← HA.out]; exact HA0.out⟩
            · rintro ⟨o, ho, r1, r2⟩
              by_cases hot : o = t
              · subst hot; exact .inr (by simp [r1])
              · exact .inl ⟨o, by omega, r1, r2⟩)
        clear hB1 hR1 hh1 hp1 hF1 hO1 hvb d1
        go_wp2
        obtain ⟨f1, f2, f3, f4, f5, f6, f7, f8⟩ := HFIN.out
        exact ⟨⟨t + 1, v', H', by omega, by go_num, f1, f2, f3, f4, f5, f6, f7, f8⟩, by simp [intOf]; omega⟩
      · have ha0b : ((a : Int) == 0) = false := by rw [beq_eq_false_iff_ne]; omega
        have HA0 := Lib.hid ha0
        clear ha0
        go_wp2
        refine ⟨⟨t + 1, v, H, by omega, by go_num, HBG.out, HBH.out, HR.out, HH.out, HND.out, fun y => ?_, hsz, HG.out⟩, by simp [intOf]; omega⟩
        rw [HME.out y]
        constructor
        · rintro ⟨o, ho, r⟩; exact ⟨o, by omega, r⟩
        · rintro ⟨o, ho, r1, r2⟩
          by_cases hot : o = t
          · subst hot; rw [← HA.out] at r2; exact absurd r2 HA0.out
          · exact ⟨o, by omega, r1, r2⟩
    · obtain rfl : t = n := by omega
      have HFR := Lib.hid (show Frees A t [] H from ⟨HND.out, fun y => by
        rw [HME.out y]
        constructor
        · rintro ⟨o, ho, r1, r2⟩
          exact ⟨o, r1, ((LeftOf.start A t hA HAL.out).free o).2 ⟨ho, by simp, r2⟩⟩
        · rintro ⟨o, r1, r2⟩
          obtain ⟨a, _, b⟩ := ((LeftOf.start A t hA HAL.out).free o).1 r2
          exact ⟨o, a, r1, b⟩⟩)
      have HI50 := Lib.hid (show (Tryd.prog.info? 47).map (·.size) = some (aCells A).length from by rw [aCells_len, hA]; exact info50)
      have HB50 := Lib.hid (show Blk (wr.alloc (.cells (aCells (List.replicate 16 0)).toArray 47)) wr.heap.size 47 (aCells (List.replicate 16 0)) from Blk.new wr 47 _)
      have HLL := Lib.hid (show (aCells (List.replicate 16 0)).length = (aCells A).length from by rw [aCells_len, aCells_len, hA]; rfl)
      clear hbg
      go_wp2_with (first | ((with_reducible refine wpList_load_mid ?_ 47 (.tmp 24) ?_ w.heap.size 1 ?_ (aCells A) _ ?_ Tryd.underlying47 ?_ ?_ ?_); exact rfl; exact rfl; exact rfl; exact range_g HBG.out; exact rfl; exact HI50.out) | ((with_reducible refine wpList_store_blk ?_ 47 (.tmp 6) (.tmp 25) ?_ wr.heap.size (aCells A) (aCells (List.replicate 16 0)) 47 ?_ ?_ ?_ ?_ ?_ ?_ ?_); exact rfl; exact rfl; exact HB50.out; exact HI50.out; exact HLL.out; exact aCells_one _; exact rfl; exact rfl; intro w1 HBL HGL))
      have HST := Lib.hid (show OSt w w1 t A (.slice none 0 0) [] wr.heap.size A v H from by
        have hvn : ∀ q, v.ownBlock = some q → q < wr.heap.size := fun q hq => (HR.out.lt q hq).2
        refine ⟨(HBG.out.alloc _).kept HGL.out (by simp; omega), (HBH.out.alloc _).kept HGL.out (by simp; omega), (HR.out.alloc _).kept HGL.out (fun q hq e => by cases e; have := hvn _ hq; omega), HH.out, Row.nil _ _, HBL.out, hsz, fun e => by have := hvn _ e; omega, (fun e => by cases e), (fun q hq => by cases hq), ?_, grown_into (grown_alloc HG.out _) HGL.out (by omega)⟩
        have := HGL.out.size
        simp at this
        omega)
      have HCS := Lib.hid (LeftOf.start A t hA HAL.out)
      clear HBG HBH HR HH HND HME HG HI50 HB50 HLL HBL HGL hsz hHn
      simp only [Act.put]
      obtain ⟨i3, hi3, hz0, hz1, hz2⟩ := info_parts info3
      go_loopw [5, 6] (fun lv lp wi => ∃ (lb : Nat) (D : List Int) (T : List Nat) (v' : Value) (H' : List Int), lp = .pointer (some ⟨lb, 0, none⟩) ∧ OSt w wi t A lv D lb T v' H' ∧ Chain A t D ∧ LeftOf A t D T ∧ Frees A t D H') (fun lv _ _ => t - sliceLen lv)
      case atStart => exact ⟨_, [], A, v, H, rfl, HST.out, Chain.nil, HCS.out, HFR.out⟩
      case round =>
        clear HST HFR HCS
        obtain ⟨lb, D, T, vh, G, rfl, hst, hch, hlf, hfr⟩ := hrel
        have HST := Lib.hid hst
        have HCH := Lib.hid hch
        have HLF := Lib.hid hlf
        have HFR := Lib.hid hfr
        have hG16 := hfr.small
        have hDl := hch.len
        obtain ⟨ta, gq, cq, hvq, -⟩ := row_ints hst.rh
        have d0 : wr.cell? ⟨w.heap.size + 1, 0, none⟩ = some (.slice ta G.length cq) := by rw [← hvq]; exact hst.bh.cell rfl
        have hsz := hst.sz
        clear hst hch hlf hfr
        by_cases hG0 : G.length = 0
        · have hgI : ¬ (G.length : Int) > 0 := by omega
          go_wp2_with (first | (go_at_call 36; refine (len_any _ _ _ _).mono ?_; rintro e w' ⟨rfl, hw⟩; have hw := hw.symm; subst hw))
          go_ret
          refine ⟨_, D, rfl, HST.out.rl.base (by omega), HCH.out, fun k => ?_, HST.out.gr⟩
          cases hk : freeB A t D k
          · rfl
          · have := (HFR.out.2 _).2 ⟨k, rfl, hk⟩
            rw [List.eq_nil_of_length_eq_zero hG0] at this
            cases this
        · have hgI : (0 : Int) < (G.length : Int) := by omega
          obtain ⟨c, hc0, hcf, hcm⟩ := HFR.out.least HST.out.hp.least (by omega)
          have HCF := Lib.hid hcf
          have HCM := Lib.hid hcm
          have hct : c < t := ((free_iff A t D c).1 hcf).1
          have HPO := Lib.hid (Pop_any wr (w.heap.size + 1) (w.heap.size + 2) vh G (by omega) (by omega) HST.out.bh HST.out.rh HST.out.hp (by omega))
          rw [hc0] at HPO
          have hta := ta_int (c : Int)
          have HDN := Lib.hid (ints_len D)
          have HDS := Lib.hid HST.out.rl.slen
          have HCD := Lib.hid (Chain.snoc HCH.out hcf hcm)
          have hDl1 : D.length + 1 ≤ t := by have := HCD.out.len; simpa using this
          clear hcf hcm hc0
          go_wp2_with (first | (go_at_call 36; refine (len_any _ _ _ _).mono ?_; rintro e w' ⟨rfl, hw⟩; have hw := hw.symm; subst hw))
          refine HPO.out.mono ?_
          rintro e w1 ⟨rfl, v1, G1, hB1, hR1, hh1, hp1, hF1, hO1⟩
          have HS1 := Lib.hid (HST.out.fr hB1 hR1 hh1 hF1 (fun q hq => .inl (by rw [← hO1]; exact hq)))
          have HP1 := Lib.hid hp1
          have hs1 := HS1.out.sz
          clear hB1 hR1 hh1 hp1 hF1 hO1 HPO d0 HST
          go_wp2_with (first | (at_builtin; refine wpList_append_row2 rfl _ _ 26 rfl 3 i3 (.int .i64 0) 8 Tryd.underlying26 hi3 hz0 hz1 hz2 rfl (w.heap.size + 2) _ (ints D) rfl (HS1.out.rl.alloc _) ⟨_, 0, none⟩ 1 1 (ints [(c : Int)]) rfl rfl (news_new _ 3 (ints [(c : Int)])) (ints_one _) (by rw [HDN.out]; unfold maxLen; omega) (by rw [HDN.out]; omega) (by simp; omega) ?_; intro lv2 w2 hrow2 hg2 hown2; have HS2 := Lib.hid (show OSt w w2 t A lv2 (D ++ [(c : Int)]) lb T v1 G1 from (HS1.out.alloc _).list (by rw [ints_app]; exact hrow2.out) hg2.out hown2.out); have e0 : w2.cell? ⟨w.heap.size, 0, none⟩ = some (.int .i64 (t : Int)) := HS2.out.bg.cell rfl))
          have HGN := Lib.hid (show G1.Nodup from (List.nodup_append.1 (HP1.out.nodup_iff.2 HFR.out.1)).1)
          have HGQ := Lib.hid (show ∀ q : Nat, (T.getD q 0).testBit c = true → ¬ (q : Int) ∈ G1 from fun q hb hm => by
            obtain ⟨k, e1, e2⟩ := (HFR.out.2 (q : Int)).1 (HP1.out.mem_iff.1 (List.mem_append_left _ hm))
            obtain rfl : q = k := by omega
            have := ((HLF.out.free q).1 e2).2.2
            rw [this] at hb
            simp at hb)
          have hc16 : c < 16 := by omega
          clear e0 hrow2 hg2 hown2 HS1
          go_loopw [39] (fun i wi => ∃ (q : Nat) (T' : List Nat) (v' : Value) (G' : List Int), q ≤ t ∧ i = .int .i64 q ∧ OSt w wi t A lv2 (D ++ [(c : Int)]) lb T' v' G' ∧ Inner T G1 c q T' G') (fun i _ => t - (intOf i).toNat)
          case atStart => exact ⟨0, T, v1, G1, Nat.zero_le _, rfl, HS2.out, Inner.start HLF.out.1 HLF.out.2.1 HGN.out⟩
          case round =>
            obtain ⟨q, T', v', G', hq, rfl, hst, hin⟩ := hrel
            have HST := Lib.hid hst
            have HIN := Lib.hid hin
            clear HS2
            by_cases hlt2 : q < t
            · obtain ⟨a, ha⟩ : ∃ a, a = T.getD q 0 := ⟨_, rfl⟩
              have ha65 : a < 65536 := by rw [ha]; exact getD_lt T HLF.out.2.1 q
              have hTq : T'.getD q 0 = a := by rw [hin.at_ q (by omega), if_neg (Nat.lt_irrefl _), ha]
              have d1 : wr.cell? ⟨lb, q, none⟩ = some (.int .u16 (a : Int)) := by
                have := hst.bl.cell (aCells_get T' q (by rw [hin.len]; omega))
                rw [hTq] at this
                exact this
              have d2 := hst.bl.frozen q
              have hqI : (q : Int) < t := by omega
              have hq16 : (q : Int) < 16 := by omega
              have HA := Lib.hid ha
              clear hst hin ha hTq
              cases hta1 : a.testBit c
              · have HT1 := Lib.hid hta1
                go_wp2_with (first | (go_at_call 38; refine (has_any _ a c ha65 hc16).mono ?_; rw [hta1]; rintro e w' ⟨rfl, hw⟩; have hw := hw.symm; subst hw))
                refine ⟨⟨q + 1, T', v', G', by omega, by go_num, HST.out, HIN.out.no HLF.out.2.1 hc16 (by rw [← HA.out]; exact HT1.out)⟩, by simp [intOf]; omega⟩
              · have HT1 := Lib.hid hta1
                have hw65 := wo_lt a c ha65
                obtain ⟨b, hb⟩ : ∃ b, b = wo a c := ⟨_, rfl⟩
                have HBW := Lib.hid hb
                have HLS := Lib.hid (HST.out.left q b)
                by_cases hb0 : b = 0
                · have hb0b : ((b : Int) == 0) = true := by simp [hb0]
                  have HPU := Lib.hid (show ∀ W, OSt w W t A lv2 (D ++ [(c : Int)]) lb (T'.set q b) v' G' → Calls Tryd.prog 35 #[.iface 67 (.pointer (some ⟨w.heap.size + 1, 0, none⟩)), .iface 3 (.int .i64 (q : Int))] W fun e w' => (∃ u, e = .returned u) ∧ ∃ v'' L', OSt w w' t A lv2 (D ++ [(c : Int)]) lb (T'.set q b) v'' L' ∧ L'.Perm (G' ++ [(q : Int)]) from fun W hW => by
                    have hGl : G'.length ≤ 1000 := by
                      have := nodup_le 16 G' HIN.out.nd (fun x hx => by
                        rcases (HIN.out.mem x).1 hx with h1 | ⟨o, ho, rfl, _⟩
                        · obtain ⟨k, rfl, hk⟩ := (HFR.out.2 x).1 (HP1.out.mem_iff.1 (List.mem_append_left _ h1))
                          have := ((free_iff A t D k).1 hk).1
                          omega
                        · omega)
                      omega
                    refine (Push_any W (w.heap.size + 1) (w.heap.size + 2) v' G' (q : Int) hGl hW.bh hW.rh hW.hp (by omega) hW.sz).mono ?_
                    rintro e w1 ⟨hu, v'', H'', hB1, hR1, hh1, hp1, hF1, hO1⟩
                    exact ⟨hu, v'', H'', hW.fr hB1 hR1 hh1 hF1 hO1, hp1⟩)
                  have HB0 := Lib.hid hb0
                  clear hb hb0
                  go_wp2_with (first | (go_at_call 38; refine (has_any _ a c ha65 hc16).mono ?_; rw [hta1]; rintro e w' ⟨rfl, hw⟩; have hw := hw.symm; subst hw) | (go_at_call 39; refine (without_any _ a c ha65 hc16).mono ?_; rw [← HBW.out]; rintro e w' ⟨rfl, hw⟩; have hw := hw.symm; subst hw))
                  refine (HPU.out _ HLS.out).mono ?_
                  rintro e w3 ⟨⟨u, rfl⟩, v'', L', hst3, hp3⟩
                  have HS3 := Lib.hid hst3
                  have HP3 := Lib.hid hp3
                  clear hst3 hp3 d1 d2
                  go_wp2
                  refine ⟨⟨q + 1, T'.set q b, v'', L', by omega, by go_num, HS3.out, ?_⟩, by simp [intOf]; omega⟩
                  have := HIN.out.push HLF.out.2.1 (by omega) (by rw [← HA.out]; exact HT1.out) (by rw [← HA.out, ← HBW.out]; exact HB0.out) (HGQ.out q (by rw [← HA.out]; exact HT1.out)) HP3.out
                  rw [← HA.out, ← HBW.out] at this
                  exact this
                · have hb0b : ((b : Int) == 0) = false := by rw [beq_eq_false_iff_ne]; omega
                  have HB0 := Lib.hid hb0
                  clear hb hb0
                  go_wp2_with (first | (go_at_call 38; refine (has_any _ a c ha65 hc16).mono ?_; rw [hta1]; rintro e w' ⟨rfl, hw⟩; have hw := hw.symm; subst hw) | (go_at_call 39; refine (without_any _ a c ha65 hc16).mono ?_; rw [← HBW.out]; rintro e w' ⟨rfl, hw⟩; have hw := hw.symm; subst hw))
                  refine ⟨⟨q + 1, T'.set q b, v', G', by omega, by go_num, HLS.out, ?_⟩, by simp [intOf]; omega⟩
                  have := HIN.out.skip HLF.out.2.1 (by omega) (by rw [← HA.out, ← HBW.out]; exact HB0.out)
                  rw [← HA.out, ← HBW.out] at this
                  exact this
            · obtain rfl : q = t := by omega
              obtain ⟨hL2, hF2⟩ := Inner.done hn HCH.out HLF.out HFR.out HCF.out HP1.out hin
              have HL2 := Lib.hid hL2
              have HF2 := Lib.hid hF2
              have HI50 := Lib.hid (show (Tryd.prog.info? 47).map (·.size) = some (aCells T').length from by rw [aCells_len, hin.len]; exact info50)
              have HB50 := Lib.hid (show Blk (wr.alloc (.cells (aCells (List.replicate 16 0)).toArray 47)) wr.heap.size 47 (aCells (List.replicate 16 0)) from Blk.new wr 47 _)
              have HLL := Lib.hid (show (aCells (List.replicate 16 0)).length = (aCells T').length from by rw [aCells_len, aCells_len, hin.len]; rfl)
              clear hst hin hL2 hF2
              go_wp2_with (first | ((with_reducible refine wpList_load_blk ?_ 47 (.tmp 6) ?_ lb (aCells T') 47 ?_ _ Tryd.underlying47 ?_ ?_ ?_ ?_); exact rfl; exact rfl; exact HST.out.bl; exact rfl; exact HI50.out; exact rfl) | ((with_reducible refine wpList_store_blk ?_ 47 (.tmp 6) (.tmp 64) ?_ wr.heap.size (aCells T') (aCells (List.replicate 16 0)) 47 ?_ ?_ ?_ ?_ ?_ ?_ ?_); exact rfl; exact rfl; exact HB50.out; exact HI50.out; exact HLL.out; exact aCells_one _; exact rfl; exact rfl; intro w4 HB4 HG4))
              simp only [Act.put]
              go_roundw
              case rel => exact ⟨_, D ++ [(c : Int)], T', v', G', rfl, HST.out.copy _ HB4.out HG4.out, HCD.out, HL2.out, HF2.out⟩
              case measure =>
                have h1 := HST.out.rl.slen
                have h2 := HDS.out
                simp only [List.length_append, List.length_cons, List.length_nil] at h1
                omega

end Go.Proofs.YtklkfphpoheanaaDoor
