/- A record more on a tape, by the document. -/
import Derived.Test.YtlnngamhjinpbaaDoorT3
namespace Go.Proofs.YtlnngamhjinpbaaDoor
open Go.RowKit

set_option maxRecDepth 100000 in
set_option maxHeartbeats 2000000 in
theorem sadd_no (w : World) (a1 a2 : Option Addr) (c1 c2 : Nat) (ss ls : List ByteArray) (r : ByteArray) (n1 : ss.length ≤ 1048576) (n2 : ls.length ≤ 1048576) (hb : AddB ss ls r = false) :
    Calls Tryd.prog 9 #[.agg #[.slice a1 ss.length c1, .slice a2 ls.length c2], .string r] w fun e w' => e = .returned (.tuple #[.agg #[.slice none 0 0, .slice none 0 0], .bool false]) ∧ w.grownBy w' none := by
  obtain ⟨W, hWe⟩ : ∃ W, ((w.alloc (Obj.cells #[Value.slice a1 ss.length c1, .slice a2 ls.length c2] 26)).alloc (Obj.cells #[Value.slice none 0 0, .slice none 0 0] 26)) = W := ⟨_, rfl⟩
  have HG := Lib.hid (show w.grownBy W none from by rw [← hWe]; exact grown_alloc (grown_alloc (grown_refl _ _) _) _)
  have HBR := Lib.hid (show Blk W (w.heap.size + 1) 26 [Value.slice none 0 0, .slice none 0 0] from by
    rw [← hWe]
    have := Blk.new (w.alloc (Obj.cells #[Value.slice a1 ss.length c1, .slice a2 ls.length c2] 26)) 26 [Value.slice none 0 0, .slice none 0 0]
    simpa using this)
  have HW := Lib.hid hWe
  have hcase : ¬ r.size ≤ 2000 ∨ (r.size ≤ 2000 ∧ ¬ ss.length + ls.length < 220) := by
    unfold AddB at hb
    by_cases h : r.size ≤ 2000
    · right; refine ⟨h, ?_⟩; simpa [h] using hb
    · exact .inl h
  clear hb hWe
  rcases hcase with h | ⟨h, h2⟩
  · have hI : (2000 : Int) < r.size := by omega
    go_enter Tryd.func9, Tryd.ntmps9
    go_wp2
    rw [HW.out]
    exact ⟨rfl, _, results_blk Tryd.results9 _ _ (w.heap.size + 1) 26 _ _ _ HBR.out Tryd.underlying26 rfl info26 rfl rfl, rfl, HG.out⟩
  · have hI : ¬ (2000 : Int) < r.size := by omega
    have h2I : (220 : Int) ≤ (ss.length : Int) + (ls.length : Int) := by omega
    go_enter Tryd.func9, Tryd.ntmps9
    go_wp2
    rw [HW.out]
    exact ⟨rfl, _, results_blk Tryd.results9 _ _ (w.heap.size + 1) 26 _ _ _ HBR.out Tryd.underlying26 rfl info26 rfl rfl, rfl, HG.out⟩

set_option maxRecDepth 100000 in
set_option maxHeartbeats 4000000 in
theorem sadd_yes (w : World) (gs cs gl cl : Nat) (ss ls : List ByteArray) (r : ByteArray) (hs : At w ⟨gs, 0, none⟩ ss) (hl : At w ⟨gl, 0, none⟩ ls) (n1 : ss.length ≤ 1048576) (n2 : ls.length ≤ 1048576) (hb : AddB ss ls r = true) :
    Calls Tryd.prog 9 #[.agg #[.slice (some ⟨gs, 0, none⟩) ss.length cs, .slice (some ⟨gl, 0, none⟩) ls.length cl], .string r] w fun e w' => ∃ v1 v2, e = .returned (.tuple #[.agg #[v1, v2], .bool true]) ∧ Row w' w.heap.size v1 (strs ss) ∧ Row w' w.heap.size v2 (strs (ls ++ [pieceT r])) ∧ (∀ q, v1.ownBlock = some q → v2.ownBlock ≠ some q) ∧ w.grownBy w' none := by
  obtain ⟨hr, hlen⟩ : r.size ≤ 2000 ∧ ss.length + ls.length < 220 := by unfold AddB at hb; simpa using hb
  obtain ⟨W, hWe⟩ : ∃ W, ((w.alloc (Obj.cells #[Value.slice (some ⟨gs, 0, none⟩) ss.length cs, .slice (some ⟨gl, 0, none⟩) ls.length cl] 26)).alloc (Obj.cells #[Value.slice none 0 0, .slice none 0 0] 26)) = W := ⟨_, rfl⟩
  have HG := Lib.hid (show w.grownBy W none from by rw [← hWe]; exact grown_alloc (grown_alloc (grown_refl _ _) _) _)
  have HBR := Lib.hid (show Blk W (w.heap.size + 1) 26 [Value.slice none 0 0, .slice none 0 0] from by
    rw [← hWe]
    have := Blk.new (w.alloc (Obj.cells #[Value.slice (some ⟨gs, 0, none⟩) ss.length cs, .slice (some ⟨gl, 0, none⟩) ls.length cl] 26)) 26 [Value.slice none 0 0, .slice none 0 0]
    simpa using this)
  have HW := Lib.hid hWe
  have HSW := Lib.hid (show w.heap.size + 1 < W.heap.size from HBR.out.lt)
  have HCP := Lib.hid (scopy_any W gs cs gl cl ss ls (hs.kept HG.out (by simp)) (hl.kept HG.out (by simp)) n1 n2)
  obtain ⟨i9, hi9, hz0, hz1, hz2⟩ := info_parts info9g
  have hrI : ¬ (2000 : Int) < r.size := by omega
  have hlI : ¬ (220 : Int) ≤ (ss.length : Int) + (ls.length : Int) := by omega
  obtain ⟨p, hpe⟩ : ∃ p, pieceT r = p := ⟨_, rfl⟩
  have HPE := Lib.hid hpe
  have HPR := Lib.hid (fun (V : World) => show Calls Tryd.prog 31 #[.string r] V fun e w' => e = .returned (.string p) ∧ V.grownBy w' none from by rw [← hpe]; exact sframe_any V r (by omega))
  clear hb hWe hs hl hpe
  go_enter Tryd.func9, Tryd.ntmps9
  go_wp2_with fail
  rw [HW.out]
  clear HW
  refine HCP.out.mono ?_
  rintro e w1 ⟨v1, v2, rfl, hr1, hr2, hd, hg1⟩
  have HG1 := Lib.hid (grown_trans HG.out hg1)
  have HR1 := Lib.hid hr1
  have HR2 := Lib.hid hr2
  have HD := Lib.hid hd
  have HB1 := Lib.hid (HBR.out.kept hg1 (by simp))
  have HSZ := Lib.hid hg1.size
  obtain ⟨an1, cn1, rfl, -⟩ := hr1.lies
  obtain ⟨an2, cn2, rfl, -⟩ := hr2.lies
  clear hr1 hr2 hd hg1 HCP
  go_wp2_with fail
  obtain ⟨V0, hV⟩ : ∃ V0, w1.alloc (Obj.cells #[Value.slice an1 ss.length cn1, .slice an2 ls.length cn2] 26) = V0 := ⟨_, rfl⟩
  obtain ⟨C, hC⟩ : ∃ C, w1.heap.size = C := ⟨_, rfl⟩
  have HBC := Lib.hid (show Blk V0 C 26 [Value.slice an1 ss.length cn1, .slice an2 ls.length cn2] from by rw [← hV, ← hC]; exact Blk.new w1 26 _)
  have HGV := Lib.hid (show w.grownBy V0 none from by rw [← hV]; exact grown_alloc HG1.out _)
  have HBV := Lib.hid (show Blk V0 (w.heap.size + 1) 26 [Value.slice none 0 0, .slice none 0 0] from by rw [← hV]; exact HB1.out.alloc _)
  have HRV1 := Lib.hid (show Row V0 W.heap.size (.slice an1 ss.length cn1) (strs ss) from by rw [← hV]; exact HR1.out.alloc _)
  have HRV2 := Lib.hid (show Row V0 W.heap.size (.slice an2 ls.length cn2) (strs ls) from by rw [← hV]; exact HR2.out.alloc _)
  have HQ1 := Lib.hid (show ∀ q, (Value.slice an1 ss.length cn1).ownBlock = some q → q < C from fun q hq => by rw [← hC]; exact (HR1.out.lt q hq).2)
  have HQ2 := Lib.hid (show ∀ q, (Value.slice an2 ls.length cn2).ownBlock = some q → W.heap.size ≤ q ∧ q < C from fun q hq => by rw [← hC]; exact HR2.out.lt q hq)
  rw [hV, hC]
  rw [hC] at HSZ
  clear hV hC HB1 HR1 HR2 HG1
  have d1 : V0.cell? ⟨C, 1, none⟩ = some (.slice an2 ls.length cn2) := HBC.out.cell rfl
  have hnc1 : ¬ w.heap.size + 1 = C := by have h1 := HSZ.out; have h2 := HSW.out; omega
  have hnc2 : ¬ C = w.heap.size + 1 := by have h1 := HSZ.out; have h2 := HSW.out; omega
  go_region_law (first
    | (go_simp; go_at_call 31; (with_reducible refine (HPR.out _).mono ?_); rintro e w3 ⟨rfl, hg3⟩; have YBC := Lib.hid (HBC.out.drew.kept hg3 (by simp)); have YGV := Lib.hid (grown_trans (grown_drew HGV.out) hg3); have YBV := Lib.hid (HBV.out.drew.kept hg3 (by simp)); have YR1 := Lib.hid (HRV1.out.drew.kept hg3 (by simp)); have YR2 := Lib.hid (HRV2.out.drew.kept hg3 (by simp)); have hsz3 : C < w3.heap.size := YBC.out.lt; have d3 : w3.cell? ⟨C, 1, none⟩ = some (.slice an2 ls.length cn2) := YBC.out.cell rfl; have d4 : (w3.alloc (Obj.cells #[Value.string p] 9)).cell? ⟨C, 1, none⟩ = some (.slice an2 ls.length cn2) := (YBC.out.alloc _).cell rfl; clear hg3)
    | (refine step_append_row2 rfl _ _ 22 rfl 9 i9 (.string ⟨#[]⟩) 16 Tryd.underlying22 hi9 hz0 hz1 hz2 rfl W.heap.size (.slice an2 ls.length cn2) (strs ls) rfl (YR2.out.alloc _) ⟨_, 0, none⟩ 1 1 (strs [p]) rfl rfl (news_new _ 9 (strs [p])) (strs_one _) (by rw [strs_len]; unfold maxLen; omega) (by rw [strs_len]; omega) (by have := HSZ.out; simp; omega) ?_; intro v5 w5 HR5 HG5 HO5; have hr5 := HR5.out; rw [show strs ls ++ strs [p] = strs (ls ++ [p]) from by simp [strs]] at hr5; have HR5' := Lib.hid hr5; have ZBC := Lib.hid ((YBC.out.alloc _).kept HG5.out (fun e => by have := (HQ2.out _ e.symm).2; omega)); have ZBV := Lib.hid ((YBV.out.alloc _).kept HG5.out (fun e => by have h1 := (HQ2.out _ e.symm).1; have h2 := HSW.out; omega)); have ZR1 := Lib.hid ((YR1.out.alloc _).kept HG5.out (fun q hq e => HD.out q hq e.symm)); have ZGV := Lib.hid (grown_own (grown_alloc YGV.out _) HG5.out (fun q hq => by have h1 := (HQ2.out q hq).1; have h2 := HSW.out; omega)); obtain ⟨an5, cn5, hv5, -⟩ := hr5.lies; rw [show (ls ++ [p]).length = ls.length + 1 from by simp] at hv5; subst hv5; clear hr5; have e1 : w5.cell? ⟨C, 1, none⟩ = some (.slice an2 ls.length cn2) := ZBC.out.cell rfl; have f1 := ZBC.out.frozen 1; have k0 : w5.cell? ⟨C, 0, none⟩ = some (.slice an1 ss.length cn1) := ZBC.out.cell rfl; have m0 : w5.cell? ⟨w.heap.size + 1, 0, none⟩ = some (.slice none 0 0) := ZBV.out.cell rfl; have m1 : w5.cell? ⟨w.heap.size + 1, 1, none⟩ = some (.slice none 0 0) := ZBV.out.cell rfl; have n0 := ZBV.out.frozen 0; have n1' := ZBV.out.frozen 1))
  all_goals
    go_wp2
    have hgC := grown_set (grown_refl w5 (some C)) 1 (.slice an5 (ls.length + 1) cn5)
    have hbv := ZBV.out.kept hgC (fun e => hnc1 (Option.some.inj e))
    have hgr := grown_into ZGV.out hgC (by have h1 := HSZ.out; have h2 := HSW.out; omega)
    have hr1 := ZR1.out.kept hgC (fun q hq e => by have h1 := HQ1.out q hq; have h2 := Option.some.inj e; omega)
    have hr2 := HR5'.out.kept hgC (fun q hq e => by have h1 := HO5.out q hq; have h2 := Option.some.inj e; rcases h1 with h1 | h1; (have := (HQ2.out q h1).2; omega); (simp at h1; omega))
    have hgD := grown_set (grown_set (grown_refl (w5.setCell ⟨C, 1, none⟩ (.slice an5 (ls.length + 1) cn5)) (some (w.heap.size + 1))) 0 (.slice an1 ss.length cn1)) 1 (.slice an5 (ls.length + 1) cn5)
    have hbf := (hbv.set 0 (.slice an1 ss.length cn1)).set 1 (.slice an5 (ls.length + 1) cn5)
    have hr1f := hr1.kept hgD (fun q hq e => by have h1 := (hr1.lt q hq).1; have h2 := Option.some.inj e; have h3 := HSW.out; omega)
    have hr2f := hr2.kept hgD (fun q hq e => by have h1 := (hr2.lt q hq).1; have h2 := Option.some.inj e; have h3 := HSW.out; omega)
    refine ⟨rfl, _, results_blk Tryd.results9 _ _ (w.heap.size + 1) 26 _ _ _ hbf Tryd.underlying26 rfl info26 rfl rfl, _, _, rfl, hr1f.base (by have := HSW.out; omega), ?_, ?_, grown_into hgr hgD (by omega)⟩
    · rw [HPE.out]
      exact hr2f.base (by have := HSW.out; omega)
    · intro q hq hq2
      rcases HO5.out q hq2 with h1 | h1
      · exact HD.out q hq h1
      · have h2 := HQ1.out q hq
        simp at h1
        omega
end Go.Proofs.YtlnngamhjinpbaaDoor
