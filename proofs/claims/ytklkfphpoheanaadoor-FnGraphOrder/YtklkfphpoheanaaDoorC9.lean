/- impl's ring: the closure that goes on. -/
import Derived.Test.YtklkfphpoheanaaDoorC8
import Derived.Test.YtklkfphpoheanaaDoorC5
namespace Go.Proofs.YtklkfphpoheanaaDoor
open Go.RowKit

def WayX (pb base : Nat) (q : Nat) : Prop := q = pb ∨ base ≤ q
theorem Tabs.fr {w w' : World} {X : Nat → Prop} (h : Tabs w) (hg : Fr w w' X) (h0 : 0 < w.heap.size) (hx : ¬ X 0) : Tabs w' :=
  ⟨fun j hj => by
    rw [← h.bs j hj]
    have := hg.block 0 h0 hx
    unfold World.cell?
    simp only [this]⟩

theorem info26 : (Tryd.prog.info? 26).map (·.size) = some 1 := by kernel_rfl
/-- how the way ends -/
def WayEnd (E : List (Int × Int)) (D : List Int) (a0 : Int) (pb base : Nat) (w : World) (v : Value) (w' : World) : Prop :=
  ∃ (g t cp : Nat) (W' : List Int) (a' : Int), v = .slice (some ⟨g, t, none⟩) (W'.length - t) cp ∧ W'.length - t ≤ cp ∧ Way E D a0 W' a' ∧ a' ∈ W' ∧ AtI W' a' t ∧ (∀ j, j < W'.length - t → w'.cell? ⟨g, t + j, none⟩ = some (.int .i64 (W'.getD (t + j) 0))) ∧ Fr w w' (WayX pb base)

set_option maxRecDepth 100000 in
set_option maxHeartbeats 1000000 in
theorem way_any (gb sb kb pb base n : Nat) (E : List (Int × Int)) (D : List Int) (s : Nat) (a0 : Int) (hn : n ≤ 16) (hin : ∀ e ∈ E, In16 n e) (hf : ∀ k, freeB (adj E) n D k = false) (hs65 : s < 65536) (hs : ∀ j, s.testBit j = decide (j < n ∧ ¬ (j : Int) ∈ D)) (hst0 : 0 ≤ a0 ∧ a0 < n ∧ ¬ a0 ∈ D)
    (hgb : gb < base ∧ ¬ gb = pb) (hsb : sb < base ∧ ¬ sb = pb) (hkb : kb < base ∧ ¬ kb = pb) (hpb : pb < base ∧ 0 < pb) : ∀ (f : Nat) (w : World) (W : List Int) (one : Nat) (v : Value), n < f + W.length → base ≤ w.heap.size → Tabs w → Way E D a0 W (one : Int) →
    Blk w gb 49 (gCells n (adj E)) → Blk w sb 46 [.int .u16 (s : Int)] → Blk w pb 26 [v] → Row w base v (ints W) →
    Blk w kb 73 [.func (.func 43) #[] #[.pointer (some ⟨pb, 0, none⟩), .pointer (some ⟨kb, 0, none⟩), .pointer (some ⟨gb, 0, none⟩), .pointer (some ⟨sb, 0, none⟩)]] →
    Calls Tryd.prog 43 #[.int .i64 (one : Int), .pointer (some ⟨pb, 0, none⟩), .pointer (some ⟨kb, 0, none⟩), .pointer (some ⟨gb, 0, none⟩), .pointer (some ⟨sb, 0, none⟩)] w fun e w' => ∃ v', e = .returned v' ∧ WayEnd E D a0 pb base w v' w' := by
  intro f
  induction f with
  | zero =>
    intro w W one v h _ _ hway
    have := hway.len hn hin hf hst0
    omega
  | succ f ih =>
    intro w W one v hfl hsz htab hway hbg hbs hbp hrow hbk
    have IH := Lib.hid ih
    have HBG := Lib.hid hbg
    have HBS := Lib.hid hbs
    have HBK := Lib.hid hbk
    have HBP := Lib.hid hbp
    have HTB := Lib.hid htab
    have HR := Lib.hid hrow
    have HWAY := Lib.hid hway
    have hst := (hway.stuck hn hin hf hst0).1
    have hWl := hway.len hn hin hf hst0
    have h1 : one < n := by omega
    obtain ⟨ta, g, cp, rfl, hcp, hta, hcc, -, -, -⟩ := row_ints hrow
    have HTA := Lib.hid hta
    have HCC := Lib.hid hcc
    have d0 : w.cell? ⟨pb, 0, none⟩ = some (.slice ta W.length cp) := hbp.cell rfl
    have HIDX := Lib.hid (index_any w W ta g 0 cp hta (fun j hj => by rw [Nat.zero_add]; exact hcc j hj) (by omega) (one : Int))
    clear ih hbg hbs hbk hbp htab hrow hway hta hcc
    go_enter Tryd.func43, Tryd.ntmps43
    go_wp2_with fail
    refine HIDX.out.mono ?_
    rintro e w1 ⟨r, rfl, hat, hw⟩
    have hw := hw.symm
    subst hw
    have HAT := Lib.hid hat
    clear HIDX hat
    by_cases hm : (one : Int) ∈ W
    · obtain ⟨t, rfl, ht, -, -⟩ := HAT.out.yes hm
      have e1 := HTA.out (by omega)
      subst e1
      have ht0 : ¬ (t : Int) < 0 := by omega
      have htI : (t : Int) ≤ W.length := by omega
      have htc : (W.length : Int) ≤ cp := by omega
      have HM := Lib.hid hm
      clear hm
      have HEND := Lib.hid (show WayEnd E D a0 pb base w (.slice (some ⟨g, t, none⟩) (W.length - t) (cp - t)) w from ⟨g, t, cp - t, W, one, rfl, by omega, HWAY.out, HM.out, HAT.out, fun j hj => HCC.out (t + j) (by omega), ⟨rfl, rfl, rfl, Nat.le_refl _, fun _ _ _ => rfl⟩⟩)
      go_wp2
      go_ret
      exact ⟨_, rfl, HEND.out⟩
    · obtain ⟨rfl, -⟩ : r = -1 ∧ True := by
        rcases HAT.out with ⟨j, rfl, hj, e, _⟩ | ⟨rfl, _⟩
        · exact absurd (mem_of_at hj e) hm
        · exact ⟨rfl, trivial⟩
      obtain ⟨i3, hi3, hz0, hz1, hz2⟩ := info_parts info3
      have HNM := Lib.hid hm
      have d1 := HBP.out.frozen 0
      clear hm HAT
      go_wp2_with (first | (at_builtin; refine wpList_append_row2 rfl _ _ 26 rfl 3 i3 (.int .i64 0) 8 Tryd.underlying26 hi3 hz0 hz1 hz2 rfl base _ (ints W) rfl (HR.out.alloc _) ⟨_, 0, none⟩ 1 1 (ints [(one : Int)]) rfl rfl (news_new _ 3 (ints [(one : Int)])) (ints_one _) (by rw [ints_len]; unfold maxLen; omega) (by rw [ints_len]; omega) (by simp; omega) ?_; intro v1 w5 hrow1 hg5 hown5; obtain ⟨ta1, g1, cp1, rfl, -⟩ := row_ints (show Row w5 base v1 (ints (W ++ [(one : Int)])) from by rw [ints_app]; exact hrow1.out); have HP5 := Lib.hid (show Blk w5 pb 26 [.slice ta W.length cp] from (HBP.out.alloc _).kept hg5.out (fun e => by have := (HR.out.lt pb e.symm).1; omega))) | ((with_reducible refine wpList_store_cell ?_ 26 (.tmp 1) (.tmp 19) ?_ pb (.slice ta1 (W ++ [(one : Int)]).length cp1) (.slice ta W.length cp) 26 ?_ ?_ ?_ ?_ ?_ ?_); exact rfl; exact rfl; exact HP5.out; exact info26; exact rfl; exact rfl; exact rfl; intro w6 HB6 HG6))
      have HF6 := Lib.hid (show Fr w w6 (WayX pb base) from ((Fr.of_grown (World.grownBy_alloc w _ none) (fun q hq => by cases hq)).trans (Fr.of_grown hg5.out (fun q hq => .inr (HR.out.lt q hq).1))).trans (Fr.of_grown HG6.out (fun q hq => by cases hq; exact .inl rfl)))
      have HR6 := Lib.hid (show Row w6 base (.slice ta1 (W ++ [(one : Int)]).length cp1) (ints (W ++ [(one : Int)])) from (show Row w5 base _ (ints (W ++ [(one : Int)])) from by rw [ints_app]; exact hrow1.out).kept HG6.out (fun k hk e => by have := (hrow1.out.lt k hk).1; cases e; omega))
      obtain ⟨t, ht⟩ := least_ex _ (next_ne hn hin hf hs h1 hst.2.2)
      have HWAY2 := Lib.hid (Way.step HWAY.out HNM.out (next_least hn hin hs h1 ht))
      obtain ⟨a, ha⟩ : ∃ a, a = (adj E).getD one 0 := ⟨_, rfl⟩
      have ha65 : a < 65536 := by rw [ha]; exact getD_lt _ (adj_in n hn E hin) one
      have hga : (gCells n (adj E))[1 + one]? = some (.int .u16 (a : Int)) := by
        have h16 : one < 16 := by omega
        rw [ha, Nat.add_comm 1 one]
        simp [gCells, adj_len, h16]
      rw [← ha] at ht
      have hx65 : a &&& s < 65536 := Nat.lt_of_le_of_lt Nat.and_le_left ha65
      have hand := u16_and_nat a s ha65 hs65
      obtain ⟨x, hx⟩ : ∃ x, x = a &&& s := ⟨_, rfl⟩
      rw [← hx] at ht hx65 hand
      have HLT := Lib.hid ht
      simp only [Act.put]
      refine wp_still_tail 8 (by kernel_rfl) (by kernel_rfl) (fun wx => Fr w wx (WayX pb base) ∧ Blk wx pb 26 [.slice ta1 (W ++ [(one : Int)]).length cp1] ∧ Row wx base (.slice ta1 (W ++ [(one : Int)]).length cp1) (ints (W ++ [(one : Int)]))) ⟨⟨HF6.out.os, HF6.out.tape, HF6.out.output, HF6.out.size, HF6.out.block⟩, HB6.out, HR6.out.drew⟩ ?_
      rintro wx ⟨hf1, hb1, hr1⟩
      have hb2 := hf1.blk HBG.out (fun h => h.elim hgb.2 (by omega))
      have hb3 := hf1.blk HBS.out (fun h => h.elim hsb.2 (by omega))
      have hb4 := hf1.blk HBK.out (fun h => h.elim hkb.2 (by omega))
      have e0 := hb4.cell (j := 0) rfl
      have e1 : wx.cell? ⟨gb, 1 + one, none⟩ = some (.int .u16 (a : Int)) := hb2.cell hga
      have e2 := hb3.cell (j := 0) rfl
      have htb := HTB.out.fr hf1 (by omega) (fun h => h.elim (by omega) (by omega))
      have HF1 := Lib.hid hf1
      have HB1 := Lib.hid hb1
      have HR1 := Lib.hid hr1
      have HB2 := Lib.hid hb2
      have HB3 := Lib.hid hb3
      have HB4 := Lib.hid hb4
      have HT1 := Lib.hid htb
      have h1I : (one : Int) < 16 := by omega
      have h10 : (0 : Int) ≤ (one : Int) := by omega
      have HSZ := Lib.hid hf1.size
      clear hf1 hb1 hr1 hb2 hb3 hb4 htb ht hx ha hga d0 d1 HF6 HR6 HB6 HG6 HP5 hrow1 hg5 hown5
      simp only [List.take_succ_cons, List.take_zero, List.drop_succ_cons, List.drop_zero]
      iterate 7 still_step
      still_call (least_any _ x hx65 t HLT.out HT1.out)
      repeat still_step
      refine wpStill_nil ?_
      go_wp2_with fail
      refine (IH.out wx (W ++ [(one : Int)]) t _ (by simp; omega) (Nat.le_trans hsz HSZ.out) HT1.out HWAY2.out HB2.out HB3.out HB1.out HR1.out HB4.out).mono ?_
      rintro e w7 ⟨v7, rfl, hend⟩
      have HEND := Lib.hid (show WayEnd E D a0 pb base w v7 w7 from by
        obtain ⟨g, t, cp, W', a', q1, q2, q3, q4, q5, q6, q7⟩ := hend
        exact ⟨g, t, cp, W', a', q1, q2, q3, q4, q5, q6, HF1.out.trans q7⟩)
      clear hend
      go_wp2
      go_ret
      exact ⟨_, rfl, HEND.out⟩
end Go.Proofs.YtklkfphpoheanaaDoor
