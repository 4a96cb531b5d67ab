/- An audit as a text, by the program. -/
import Derived.Test.YtfdhopkjblbkmaaDoorAM
import Derived.Test.YtfdhopkjblbkmaaDoorAO
namespace Go.Proofs.YtfdhopkjblbkmaaDoor
open Go.RowKit

theorem cell_lt {w : World} {p : Addr} {v : Value} (h : w.cell? p = some v) : p.block < w.heap.size := by
  unfold World.cell? at h
  cases hb : w.heap[p.block]? with
  | none => simp [hb] at h
  | some o => exact (Array.getElem?_eq_some_iff.1 hb).1
theorem PL.grown {w w' : World} {B b : Nat} {l : List UInt8} (h : PL w B b l) (hg : w.grownBy w' none) : PL w' B b l := by
  have key : ∀ p, Lib.BuilderAt 74 5 B b p (Lib.byteCells l) w → Lib.BuilderAt 74 5 B b p (Lib.byteCells l) w' := by
    rintro p ⟨hB, v, hb, hown, hne⟩
    exact ⟨hB, v, by rw [hg.block b (Array.getElem?_eq_some_iff.1 hb).1 (by simp)]; exact hb, hown.kept hg (by cases h : v.ownBlock <;> simp), hne⟩
  rcases h with h | h
  · exact .inl (key _ h)
  · exact .inr (key _ h)
/-- lines so far: none written, or these -/
def PB (w : World) (b k : Nat) (l : List UInt8) : Prop := (k = 0 ∧ l = [] ∧ w.heap[b]? = some (.cells #[.pointer none, .slice none 0 0] 74 (0, 0))) ∨ (0 < k ∧ PLU w b b l)
theorem PB.pl {w : World} {b k : Nat} {l : List UInt8} (h : PB w b k l) : PL w b b l := by
  rcases h with ⟨-, rfl, hb⟩ | ⟨-, h⟩
  · exact .inl ⟨Nat.le_refl _, .slice none 0 0, hb, ⟨rfl, .inl ⟨rfl, rfl⟩⟩, by simp [Value.ownBlock]⟩
  · exact .inr h
theorem FK.grown {b : Nat} {a w w' : World} (h : FK b a w) (hg : w.grownBy w' none) : FK b a w' := Lib.OthersKept.grown h hg (fun g e => by cases e)
theorem Below.grown0 {B : Nat} {a w w' : World} (h : Below B a w) (hg : w.grownBy w' none) (hB : B ≤ a.heap.size) : Below B a w' := h.grown hg (Nat.le_trans hB h.size) (fun k e => by cases e)

set_option maxRecDepth 100000 in
set_option maxHeartbeats 32000000 in
theorem itext_any (w : World) (hP : Pow w) (es : List AE) (ao : Option Addr) (cap : Nat) (hl : ELies w 0 ao es) (hz : EZ es) (hA : AuditP es) :
    Calls Tryd.prog 30 #[.slice ao es.length cap] w fun e w' => e = .returned (.string (textS es es.length)) ∧ w.grownBy w' none := by
  have HL := Lib.hid hl
  have HZ := Lib.hid hz
  have HD := Lib.hid hA
  have h200 : es.length ≤ 200 := hA.1
  have HTL := Lib.hid (textB_len es hz h200)
  have hnI : (es.length : Int) ≤ 200 := by omega
  obtain ⟨b, hb⟩ : ∃ x, w.heap.size = x := ⟨_, rfl⟩
  have HP := Lib.hid (fun (V : World) (hV : Below b w V) => show Pow V from hP.grown (by rw [← hb] at hV; exact grown_of_below hV none))
  have HPB0 := Lib.hid (show PB (w.alloc (Obj.cells #[Value.pointer none, .slice none 0 0] 74)) b 0 (textB es 0) from .inl ⟨rfl, rfl, by rw [← hb]; exact heap_alloc_new w _⟩)
  have HBL0 := Lib.hid (show Below b w (w.alloc (Obj.cells #[Value.pointer none, .slice none 0 0] 74)) from (Below.refl b w).alloc (by omega) _)
  have HSZ0 := Lib.hid (show b < (w.alloc (Obj.cells #[Value.pointer none, .slice none 0 0] 74)).heap.size from by simp; omega)
  have HBE := Lib.hid hb
  clear hl hz hA hP hb
  go_enter Tryd.func30, Tryd.ntmps30
  go_wp2
  rw [HBE.out]
  go_loopw [8] (fun i wr => ∃ k : Nat, k ≤ es.length ∧ i = .int .i64 k ∧ Hid (PB wr b k (textB es k)) ∧ Hid (Below b w wr) ∧ Hid (b < wr.heap.size)) (fun i _ => es.length - (intOf i).toNat)
  case atStart => exact ⟨0, Nat.zero_le _, rfl, HPB0, HBL0, HSZ0⟩
  case round =>
    obtain ⟨k, hk, rfl, HPB, HBL, HBS⟩ := hrel
    by_cases hlt : k < es.length
    · have hkI : (k : Int) < es.length := by omega
      obtain ⟨E, hE⟩ : ∃ E, es[k] = E := ⟨_, rfl⟩
      have HST := Lib.hid (HD.out.2 k hlt)
      have HZE := HZ.out es[k] (List.getElem_mem hlt)
      have HTN := Lib.hid (textB_at es k hlt)
      rw [hE] at HST HZE HTN
      obtain ⟨z1, z2, z3, z4⟩ := HZE
      rcases HL.out with h0 | ⟨ab, oo, rfl, -, hc⟩
      · omega
      have hce := hc k hlt
      rw [hE] at hce
      have hts := HTL.out k hk
      clear hc hE
      obtain ⟨sq, ten, wha, det, sm⟩ := E
      obtain ⟨x0, x1, x2, x3, x4⟩ := hce
      simp only at x0 x1 x2 x3 x4 z1 z2 z3 z4 HTN
      have hsq : sq = (k : Int) + 1 := HST.out.1
      subst hsq
      have habl : ab < b := by
        have h5 := cell_lt x0
        have := HBE.out
        simp only at h5
        omega
      have y0 := (HBL.out.cell (p := ⟨ab, oo + k * 5, none⟩) habl).trans x0
      have y1 := (HBL.out.cell (p := ⟨ab, oo + k * 5 + 1, none⟩) habl).trans x1
      have y2 := (HBL.out.cell (p := ⟨ab, oo + k * 5 + 2, none⟩) habl).trans x2
      have y3 := (HBL.out.cell (p := ⟨ab, oo + k * 5 + 3, none⟩) habl).trans x3
      have y4 := (HBL.out.cell (p := ⟨ab, oo + k * 5 + 4, none⟩) habl).trans x4
      have HLL := Lib.hid (lineB_len (k + 1) ten wha sm det)
      have HDS := Lib.hid (decS_size (k + 1) (by omega))
      obtain ⟨D, hD⟩ : ∃ D, decS (k + 1) = D := ⟨_, rfl⟩
      rw [hD] at HLL HDS
      have HLN := Lib.hid (show (textB es k).length + D.size + (wordsB [ten, wha, sm, det]).length + 1 ≤ 140737488355328 from by
        have h1 := HLL.out
        have h2 := HDS.out
        have hkk : k * 4194400 ≤ 838880000 := by omega
        have k1 : ten.data.toList.length = ten.size := by simp
        have k2 : wha.data.toList.length = wha.size := by simp
        have k3 : sm.data.toList.length = sm.size := by simp
        have k4 : det.data.toList.length = det.size := by simp
        simp only [wordsB, List.length_append, List.length_cons, List.length_nil]
        omega)
      have HTN2 := Lib.hid (show textB es (k + 1) = textB es k ++ D.data.toList ++ wordsB [ten, wha, sm, det] ++ [10] from by
        rw [HTN.out]
        unfold lineB
        rw [hD]
        simp only [List.append_assoc])
      have HIT := Lib.hid (fun (V : World) (hV : Pow V) => show Calls Tryd.prog 43 #[.int .i64 ((k : Int) + 1)] V (fun e w' => e = .returned (.string D) ∧ V.grownBy w' none) from by
        have := itoa_nat (k + 1) (by omega) V hV
        rw [show ((k + 1 : Nat) : Int) = (k : Int) + 1 from by omega, hD] at this
        exact this)
      obtain ⟨w2, hw2⟩ : ∃ x, wr.alloc (Obj.cells #[Value.int .i64 ((k : Int) + 1), .string ten, .string wha, .string det, .string sm] 37) = x := ⟨_, rfl⟩
      obtain ⟨X, hX⟩ : ∃ x, wr.heap.size = x := ⟨_, rfl⟩
      have HXX := Lib.hid (show Blk w2 X 37 [.int .i64 ((k : Int) + 1), .string ten, .string wha, .string det, .string sm] from by rw [← hw2, ← hX]; exact Blk.new wr 37 _)
      have hgr := (show wr.grownBy w2 none from by rw [← hw2]; exact World.grownBy_alloc _ _ none)
      have HPW := Lib.hid (show PL w2.drew b b (textB es k) from (HPB.out.pl.grown hgr).grown (grown_drew (grown_refl _ _)))
      have HBW := Lib.hid (show Below b w w2 from HBL.out.grown hgr (by have := HBS.out; omega) (fun k e => by cases e))
      have HXB := Lib.hid (show X ≠ b ∧ b < w2.heap.size from ⟨by have := HBS.out; omega, Nat.lt_of_lt_of_le HBS.out hgr.size⟩)
      have HW2 := Lib.hid hw2
      have HXE := Lib.hid hX
      clear hw2 hX hgr hD hts
      go_wp2
      rw [HW2.out, HXE.out]
      clear y0 y1 y2 y3 y4
      refine wp_region_held_drew (S := fun V => FK b w2 V ∧ Below b w2 V) (by kernel_rfl) ⟨Lib.OthersKept.drew (Lib.OthersKept.refl _ _ _), Below.drew (Below.refl _ _)⟩ (fun hS => ?_)
      generalize w2.drew = V0 at hS HPW ⊢
      try dsimp only at hS
      refine wpAnyH_take (i := 0) (oi := ⟨some 12, _, _, _, _, _⟩) (v := (.pointer (some ⟨X, 0, none⟩))) rfl (by kernel_rfl) (by kernel_rfl) (by kernel_rfl) (fun _ _ _ h => h) (Or.inl ⟨by kernel_rfl, fun w' hSw => ?_⟩) hS ?_
      · go_simp
        all_goals first | rfl | (simp [*]; done)
      simp only [Act.put, List.setIfInBounds_toArray, List.set_cons_zero, List.set_cons_succ]
      refine wpAnyH_take (i := 1) (oi := ⟨some 13, _, _, _, _, _⟩) (v := (.int .i64 ((k : Int) + 1))) rfl (by kernel_rfl) (by kernel_rfl) (by kernel_rfl) (fun _ _ _ h => h) (Or.inl ⟨by kernel_rfl, fun w' hSw => ?_⟩) hS ?_
      · have kf : w'.cell? ⟨X, 0, none⟩ = some (.int .i64 ((k : Int) + 1)) := (FK.blk hSw.1 HXX.out HXB.out.1 (by decide)).cell rfl
        go_simp
        all_goals first | rfl | (simp [*]; done)
      simp only [Act.put, List.setIfInBounds_toArray, List.set_cons_zero, List.set_cons_succ]
      refine wpAnyH_take (i := 3) (oi := ⟨some 15, _, _, _, _, _⟩) (v := (.pointer (some ⟨X, 1, none⟩))) rfl (by kernel_rfl) (by kernel_rfl) (by kernel_rfl) (fun _ _ _ h => h) (Or.inl ⟨by kernel_rfl, fun w' hSw => ?_⟩) hS ?_
      · go_simp
        all_goals first | rfl | (simp [*]; done)
      simp only [Act.put, List.setIfInBounds_toArray, List.set_cons_zero, List.set_cons_succ]
      refine wpAnyH_take (i := 4) (oi := ⟨some 16, _, _, _, _, _⟩) (v := (.string ten)) rfl (by kernel_rfl) (by kernel_rfl) (by kernel_rfl) (fun _ _ _ h => h) (Or.inl ⟨by kernel_rfl, fun w' hSw => ?_⟩) hS ?_
      · have kf : w'.cell? ⟨X, 1, none⟩ = some (.string ten) := (FK.blk hSw.1 HXX.out HXB.out.1 (by decide)).cell rfl
        go_simp
        all_goals first | rfl | (simp [*]; done)
      simp only [Act.put, List.setIfInBounds_toArray, List.set_cons_zero, List.set_cons_succ]
      refine wpAnyH_take (i := 5) (oi := ⟨some 17, _, _, _, _, _⟩) (v := (.pointer (some ⟨X, 2, none⟩))) rfl (by kernel_rfl) (by kernel_rfl) (by kernel_rfl) (fun _ _ _ h => h) (Or.inl ⟨by kernel_rfl, fun w' hSw => ?_⟩) hS ?_
      · go_simp
        all_goals first | rfl | (simp [*]; done)
      simp only [Act.put, List.setIfInBounds_toArray, List.set_cons_zero, List.set_cons_succ]
      refine wpAnyH_take (i := 6) (oi := ⟨some 18, _, _, _, _, _⟩) (v := (.string wha)) rfl (by kernel_rfl) (by kernel_rfl) (by kernel_rfl) (fun _ _ _ h => h) (Or.inl ⟨by kernel_rfl, fun w' hSw => ?_⟩) hS ?_
      · have kf : w'.cell? ⟨X, 2, none⟩ = some (.string wha) := (FK.blk hSw.1 HXX.out HXB.out.1 (by decide)).cell rfl
        go_simp
        all_goals first | rfl | (simp [*]; done)
      simp only [Act.put, List.setIfInBounds_toArray, List.set_cons_zero, List.set_cons_succ]
      refine wpAnyH_take (i := 7) (oi := ⟨some 19, _, _, _, _, _⟩) (v := (.pointer (some ⟨X, 4, none⟩))) rfl (by kernel_rfl) (by kernel_rfl) (by kernel_rfl) (fun _ _ _ h => h) (Or.inl ⟨by kernel_rfl, fun w' hSw => ?_⟩) hS ?_
      · go_simp
        all_goals first | rfl | (simp [*]; done)
      simp only [Act.put, List.setIfInBounds_toArray, List.set_cons_zero, List.set_cons_succ]
      refine wpAnyH_take (i := 8) (oi := ⟨some 20, _, _, _, _, _⟩) (v := (.string sm)) rfl (by kernel_rfl) (by kernel_rfl) (by kernel_rfl) (fun _ _ _ h => h) (Or.inl ⟨by kernel_rfl, fun w' hSw => ?_⟩) hS ?_
      · have kf : w'.cell? ⟨X, 4, none⟩ = some (.string sm) := (FK.blk hSw.1 HXX.out HXB.out.1 (by decide)).cell rfl
        go_simp
        all_goals first | rfl | (simp [*]; done)
      simp only [Act.put, List.setIfInBounds_toArray, List.set_cons_zero, List.set_cons_succ]
      refine wpAnyH_take (i := 9) (oi := ⟨some 21, _, _, _, _, _⟩) (v := (.pointer (some ⟨X, 3, none⟩))) rfl (by kernel_rfl) (by kernel_rfl) (by kernel_rfl) (fun _ _ _ h => h) (Or.inl ⟨by kernel_rfl, fun w' hSw => ?_⟩) hS ?_
      · go_simp
        all_goals first | rfl | (simp [*]; done)
      simp only [Act.put, List.setIfInBounds_toArray, List.set_cons_zero, List.set_cons_succ]
      refine wpAnyH_take (i := 10) (oi := ⟨some 22, _, _, _, _, _⟩) (v := (.string det)) rfl (by kernel_rfl) (by kernel_rfl) (by kernel_rfl) (fun _ _ _ h => h) (Or.inl ⟨by kernel_rfl, fun w' hSw => ?_⟩) hS ?_
      · have kf : w'.cell? ⟨X, 3, none⟩ = some (.string det) := (FK.blk hSw.1 HXX.out HXB.out.1 (by decide)).cell rfl
        go_simp
        all_goals first | rfl | (simp [*]; done)
      simp only [Act.put, List.setIfInBounds_toArray, List.set_cons_zero, List.set_cons_succ]
      refine wpAnyH_ready (rs := [2, 11]) (by kernel_rfl) (by simp) ?_
      refine AllReadyH.cons (o := ⟨some 14, _, _, _, _, _⟩) rfl (fun K hK => ?_) (AllReadyH.cons (o := ⟨some 23, _, _, _, _, _⟩) rfl (fun K hK => ?_) AllReadyH.nil)
      · skip
        go_simp
        refine (HIT.out _ (HP.out _ (HBW.out.trans hS.2))).mono ?_
        rintro e wa ⟨rfl, hga⟩
        go_simp
        have HPW' := Lib.hid (HPW.out.grown hga)
        clear HPW
        have HPW := HPW'
        clear HPW'
        have hS := And.intro (FK.grown hS.1 hga) (Below.grown0 hS.2 hga (Nat.le_of_lt HXB.out.2))
        refine hK.out _ _ hS (fun hS => ?_)
        clear hK hga
        refine wpAnyH_ready (rs := [11]) (by kernel_rfl) (by simp) ?_
        refine AllReadyH.cons (o := ⟨some 23, _, _, _, _, _⟩) rfl (fun K hK => ?_) AllReadyH.nil
        go_simp
        obtain ⟨VB, hVB⟩ : ∃ x, wa.alloc (Obj.cells #[Value.string ten, .string wha, .string sm, .string det] 9) = x := ⟨_, rfl⟩
        obtain ⟨GB, hGB⟩ : ∃ x, wa.heap.size = x := ⟨_, rfl⟩
        have hga := (show wa.grownBy VB none from by rw [← hVB]; exact World.grownBy_alloc _ _ none)
        have HGB := Lib.hid (show Blk VB GB 9 [Value.string ten, .string wha, .string sm, .string det] from by rw [← hVB, ← hGB]; exact Blk.new wa 9 [Value.string ten, .string wha, .string sm, .string det])
        have HGB2 := Lib.hid (show GB ≠ b from by have h1 := hS.2.size; have h2 := HXB.out.2; omega)
        rw [hVB, hGB]
        clear hVB hGB
        have HPW' := Lib.hid (HPW.out.grown hga)
        clear HPW
        have HPW := HPW'
        clear HPW'
        have hS := And.intro (FK.grown hS.1 hga) (Below.grown0 hS.2 hga (Nat.le_of_lt HXB.out.2))
        refine hK.out _ _ hS (fun hS => ?_)
        clear hK hga
        refine wpAnyH_ready (rs := [12]) (by kernel_rfl) (by simp) ?_
        refine AllReadyH.cons (o := ⟨some 24, _, _, _, _, _⟩) rfl (fun K hK => ?_) AllReadyH.nil
        go_simp
        refine (iline_any _ b b _ D GB [ten, wha, sm, det] HPW.out HGB.out HGB2.out (by simp) HLN.out (Nat.le_trans (Nat.le_of_lt HXB.out.2) hS.2.size)).mono ?_
        rintro e wc ⟨rfl, hpl, hbl, hfk⟩
        go_simp
        have hS := And.intro (show FK b w2 wc from Lib.OthersKept.trans hS.1 hfk) (hS.2.trans hbl)
        refine hK.out _ _ hS (fun hS => ?_)
        clear hK hbl hfk
        refine wpAnyH_done (by kernel_rfl) ?_ _
        have HPE := Lib.hid (show PB wc b (k + 1) (textB es (k + 1)) from .inr ⟨Nat.succ_pos _, by rw [HTN2.out]; exact hpl⟩)
        have HBE2 := Lib.hid (HBW.out.trans hS.2)
        have HBS2 := Lib.hid (show b < wc.heap.size from Nat.lt_of_lt_of_le HXB.out.2 hS.2.size)
        clear hpl hS
        go_wp2
        go_roundw
        case rel => exact ⟨k + 1, by omega, by go_num, HPE, HBE2, HBS2⟩
        case measure => simp [intOf]; omega
      · skip
        go_simp
        obtain ⟨VB, hVB⟩ : ∃ x, V0.alloc (Obj.cells #[Value.string ten, .string wha, .string sm, .string det] 9) = x := ⟨_, rfl⟩
        obtain ⟨GB, hGB⟩ : ∃ x, V0.heap.size = x := ⟨_, rfl⟩
        have hga := (show V0.grownBy VB none from by rw [← hVB]; exact World.grownBy_alloc _ _ none)
        have HGB := Lib.hid (show Blk VB GB 9 [Value.string ten, .string wha, .string sm, .string det] from by rw [← hVB, ← hGB]; exact Blk.new V0 9 [Value.string ten, .string wha, .string sm, .string det])
        have HGB2 := Lib.hid (show GB ≠ b from by have h1 := hS.2.size; have h2 := HXB.out.2; omega)
        rw [hVB, hGB]
        clear hVB hGB
        have HPW' := Lib.hid (HPW.out.grown hga)
        clear HPW
        have HPW := HPW'
        clear HPW'
        have hS := And.intro (FK.grown hS.1 hga) (Below.grown0 hS.2 hga (Nat.le_of_lt HXB.out.2))
        refine hK.out _ _ hS (fun hS => ?_)
        clear hK hga
        refine wpAnyH_ready (rs := [2]) (by kernel_rfl) (by simp) ?_
        refine AllReadyH.cons (o := ⟨some 14, _, _, _, _, _⟩) rfl (fun K hK => ?_) AllReadyH.nil
        go_simp
        refine (HIT.out _ (HP.out _ (HBW.out.trans hS.2))).mono ?_
        rintro e wa ⟨rfl, hga⟩
        go_simp
        have HGB' := Lib.hid (HGB.out.kept hga (by simp))
        clear HGB
        have HGB := HGB'
        clear HGB'
        have HPW' := Lib.hid (HPW.out.grown hga)
        clear HPW
        have HPW := HPW'
        clear HPW'
        have hS := And.intro (FK.grown hS.1 hga) (Below.grown0 hS.2 hga (Nat.le_of_lt HXB.out.2))
        refine hK.out _ _ hS (fun hS => ?_)
        clear hK hga
        refine wpAnyH_ready (rs := [12]) (by kernel_rfl) (by simp) ?_
        refine AllReadyH.cons (o := ⟨some 24, _, _, _, _, _⟩) rfl (fun K hK => ?_) AllReadyH.nil
        go_simp
        refine (iline_any _ b b _ D GB [ten, wha, sm, det] HPW.out HGB.out HGB2.out (by simp) HLN.out (Nat.le_trans (Nat.le_of_lt HXB.out.2) hS.2.size)).mono ?_
        rintro e wc ⟨rfl, hpl, hbl, hfk⟩
        go_simp
        have hS := And.intro (show FK b w2 wc from Lib.OthersKept.trans hS.1 hfk) (hS.2.trans hbl)
        refine hK.out _ _ hS (fun hS => ?_)
        clear hK hbl hfk
        refine wpAnyH_done (by kernel_rfl) ?_ _
        have HPE := Lib.hid (show PB wc b (k + 1) (textB es (k + 1)) from .inr ⟨Nat.succ_pos _, by rw [HTN2.out]; exact hpl⟩)
        have HBE2 := Lib.hid (HBW.out.trans hS.2)
        have HBS2 := Lib.hid (show b < wc.heap.size from Nat.lt_of_lt_of_le HXB.out.2 hS.2.size)
        clear hpl hS
        go_wp2
        go_roundw
        case rel => exact ⟨k + 1, by omega, by go_num, HPE, HBE2, HBS2⟩
        case measure => simp [intOf]; omega
    · obtain rfl : k = es.length := by omega
      have HTS := Lib.hid (show textS es es.length = ⟨(textB es es.length).toArray⟩ from rfl)
      rcases HPB.out with ⟨h0, hl0, hb0⟩ | ⟨h0, hpl⟩
      · have HSN := Lib.hid (istr_nil wr b (.pointer none) hb0)
        clear hb0
        go_wp2_with fail
        refine HSN.out.mono ?_
        rintro e w3 ⟨rfl, hb3⟩
        have HFI := Lib.hid (show w.grownBy w3 none from grown_of_below (by rw [HBE.out]; exact HBL.out.trans (hb3.mono (Nat.le_of_lt HBS.out))) none)
        clear hb3
        go_wp2
        go_ret
        exact ⟨by rw [HTS.out, hl0]; rfl, HFI.out⟩
      · have hne : textB es es.length ≠ [] := by
          obtain ⟨j, hj⟩ : ∃ j, es.length = j + 1 := ⟨es.length - 1, by omega⟩
          rw [hj, textB_at es j (by omega)]
          unfold lineB
          simp
        have HSN := Lib.hid (istr_some wr b b _ hpl hne)
        clear hpl hne
        go_wp2_with fail
        refine HSN.out.mono ?_
        rintro e w3 ⟨rfl, hb3⟩
        have HFI := Lib.hid (show w.grownBy w3 none from grown_of_below (by rw [HBE.out]; exact HBL.out.trans hb3) none)
        clear hb3
        go_wp2
        go_ret
        exact ⟨by rw [HTS.out]; rfl, HFI.out⟩

set_option maxRecDepth 100000 in
set_option maxHeartbeats 8000000 in
theorem iwriteA_any (w : World) (hT : Tabs w) (hP : Pow w) (a : Addr) (hU : UnfC w a) (es : List AE) (ao : Option Addr) (cap base : Nat) (hl : ELies w base ao es) (hn : es.length ≤ 1048576) (hz : EZ es) :
    Calls Tryd.prog 16 #[.slice ao es.length cap] w fun e w' => ((AuditP es ∧ e = .returned (.string (textS es es.length))) ∨ (¬ AuditP es ∧ e = .returned (.string ⟨#[]⟩))) ∧ w.grownBy w' none := by
  have HAU := Lib.hid (iaudit_any w hT hP a hU es ao cap base hl hn hz)
  have HTE := Lib.hid (fun (V : World) (hV : w.grownBy V none) (hA : AuditP es) => itext_any V (hP.grown hV) es ao cap (ELies.grown (show ELies w 0 ao es from hl.elim (fun h => .inl h) (fun ⟨ab, o, e, _, h⟩ => .inr ⟨ab, o, e, Nat.zero_le _, h⟩)) hV) hz hA)
  clear hl hz hT hP hU
  go_enter Tryd.func16, Tryd.ntmps16
  go_wp2_with fail
  refine HAU.out.mono ?_
  rintro e w1 ⟨⟨t, rfl, ht⟩, hg1⟩
  have HG1 := Lib.hid hg1
  clear hg1 HAU
  cases t
  case false =>
    have HD := Lib.hid (show ¬ AuditP es from fun h => by have := ht.2 h; cases this)
    clear ht
    go_wp2
    go_ret
    exact ⟨.inr ⟨HD.out, rfl⟩, HG1.out⟩
  have HD := Lib.hid (show AuditP es from ht.1 (by first | trivial | rfl))
  clear ht
  go_wp2_with fail
  refine (HTE.out w1 HG1.out HD.out).mono ?_
  rintro e w2 ⟨rfl, hg2⟩
  have HG2 := Lib.hid (grown_trans HG1.out hg2)
  clear hg2
  go_wp2
  go_ret
  exact ⟨.inl ⟨HD.out, rfl⟩, HG2.out⟩
end Go.Proofs.YtfdhopkjblbkmaaDoor
