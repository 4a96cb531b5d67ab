/- A tape that is made safe, by the document. -/
import Derived.Test.YtpmjinlbfddmmaaP5
namespace Go.Proofs.Ytpmjinlbfddmmaa
open Go.RowKit

set_option maxRecDepth 100000 in
set_option maxHeartbeats 4000000 in
theorem sync_any (w : World) (gs cs gl cl : Nat) (ss ls : List ByteArray) (hs : At w ⟨gs, 0, none⟩ ss) (hl : At w ⟨gl, 0, none⟩ ls) (n1 : ss.length ≤ 1048576) (n2 : ls.length ≤ 1048576) :
    Calls Try.prog 10 #[.agg #[.slice (some ⟨gs, 0, none⟩) ss.length cs, .slice (some ⟨gl, 0, none⟩) ls.length cl]] w fun e w' => ∃ v a2 c2, e = .returned (.agg #[v, .slice a2 0 c2]) ∧ Row w' w.heap.size v (strs (ss ++ ls)) ∧ w.grownBy w' none := by
  have HG := Lib.hid (show w.grownBy ((w.alloc (Obj.cells #[Value.slice (some ⟨gs, 0, none⟩) ss.length cs, .slice (some ⟨gl, 0, none⟩) ls.length cl] 26)).alloc (Obj.cells #[Value.slice none 0 0, .slice none 0 0] 26)) none from grown_alloc (grown_alloc (grown_refl _ _) _) _)
  have HBX := Lib.hid (show Blk ((w.alloc (Obj.cells #[Value.slice (some ⟨gs, 0, none⟩) ss.length cs, .slice (some ⟨gl, 0, none⟩) ls.length cl] 26)).alloc (Obj.cells #[Value.slice none 0 0, .slice none 0 0] 26)) w.heap.size 26 [Value.slice (some ⟨gs, 0, none⟩) ss.length cs, .slice (some ⟨gl, 0, none⟩) ls.length cl] from (Blk.new w 26 _).alloc _)
  have HBR := Lib.hid (show Blk ((w.alloc (Obj.cells #[Value.slice (some ⟨gs, 0, none⟩) ss.length cs, .slice (some ⟨gl, 0, none⟩) ls.length cl] 26)).alloc (Obj.cells #[Value.slice none 0 0, .slice none 0 0] 26)) (w.heap.size + 1) 26 [Value.slice none 0 0, .slice none 0 0] from by
    have := Blk.new (w.alloc (Obj.cells #[Value.slice (some ⟨gs, 0, none⟩) ss.length cs, .slice (some ⟨gl, 0, none⟩) ls.length cl] 26)) 26 [Value.slice none 0 0, .slice none 0 0]
    simpa using this)
  have HS := Lib.hid hs
  have HL := Lib.hid hl
  obtain ⟨i9, hi9, hz0, hz1, hz2⟩ := info_parts info9g
  clear hs hl
  go_enter Try.func10, Try.ntmps10
  go_wp2
  generalize ((w.alloc (Obj.cells #[Value.slice (some ⟨gs, 0, none⟩) ss.length cs, .slice (some ⟨gl, 0, none⟩) ls.length cl] 26)).alloc (Obj.cells #[Value.slice none 0 0, .slice none 0 0] 26)) = W at HG HBX HBR ⊢
  refine wp_region_held_drew (S := fun w' => w.grownBy w' none ∧ Blk w' w.heap.size 26 [Value.slice (some ⟨gs, 0, none⟩) ss.length cs, .slice (some ⟨gl, 0, none⟩) ls.length cl] ∧ ∃ ra rb, Blk w' (w.heap.size + 1) 26 [ra, rb]) (by kernel_rfl) ⟨grown_drew HG.out, HBX.out.drew, _, _, HBR.out.drew⟩ (fun hS => ?_)
  clear HG HBX HBR
  generalize W.drew = C0 at hS ⊢
  refine wpAnyH_take (i := 1) (oi := ⟨some 4, _, _, _, _, _⟩) (v := (.pointer (some ⟨w.heap.size, 0, none⟩))) rfl (by kernel_rfl) (by kernel_rfl) (by kernel_rfl) (fun _ _ _ h => h) (Or.inl ⟨by kernel_rfl, fun w' hSw => ?_⟩) hS ?_
  · obtain ⟨s1, s2, s3⟩ := hSw
    have q0 : w'.cell? ⟨w.heap.size, 0, none⟩ = some (.slice (some ⟨gs, 0, none⟩) ss.length cs) := s2.cell rfl
    have q1 : w'.cell? ⟨w.heap.size, 1, none⟩ = some (.slice (some ⟨gl, 0, none⟩) ls.length cl) := s2.cell rfl
    go_simp
    all_goals rfl
  simp only [Act.put, List.setIfInBounds_toArray, List.set_cons_zero, List.set_cons_succ]
  refine wpAnyH_take (i := 2) (oi := ⟨some 5, _, _, _, _, _⟩) (v := (.slice (some ⟨gs, 0, none⟩) ss.length cs)) rfl (by kernel_rfl) (by kernel_rfl) (by kernel_rfl) (fun _ _ _ h => h) (Or.inl ⟨by kernel_rfl, fun w' hSw => ?_⟩) hS ?_
  · obtain ⟨s1, s2, s3⟩ := hSw
    have q0 : w'.cell? ⟨w.heap.size, 0, none⟩ = some (.slice (some ⟨gs, 0, none⟩) ss.length cs) := s2.cell rfl
    have q1 : w'.cell? ⟨w.heap.size, 1, none⟩ = some (.slice (some ⟨gl, 0, none⟩) ls.length cl) := s2.cell rfl
    go_simp
    all_goals rfl
  simp only [Act.put, List.setIfInBounds_toArray, List.set_cons_zero, List.set_cons_succ]
  refine wpAnyH_take (i := 4) (oi := ⟨some 7, _, _, _, _, _⟩) (v := (.pointer (some ⟨w.heap.size, 1, none⟩))) rfl (by kernel_rfl) (by kernel_rfl) (by kernel_rfl) (fun _ _ _ h => h) (Or.inl ⟨by kernel_rfl, fun w' hSw => ?_⟩) hS ?_
  · obtain ⟨s1, s2, s3⟩ := hSw
    have q0 : w'.cell? ⟨w.heap.size, 0, none⟩ = some (.slice (some ⟨gs, 0, none⟩) ss.length cs) := s2.cell rfl
    have q1 : w'.cell? ⟨w.heap.size, 1, none⟩ = some (.slice (some ⟨gl, 0, none⟩) ls.length cl) := s2.cell rfl
    go_simp
    all_goals rfl
  simp only [Act.put, List.setIfInBounds_toArray, List.set_cons_zero, List.set_cons_succ]
  refine wpAnyH_take (i := 5) (oi := ⟨some 8, _, _, _, _, _⟩) (v := (.slice (some ⟨gl, 0, none⟩) ls.length cl)) rfl (by kernel_rfl) (by kernel_rfl) (by kernel_rfl) (fun _ _ _ h => h) (Or.inl ⟨by kernel_rfl, fun w' hSw => ?_⟩) hS ?_
  · obtain ⟨s1, s2, s3⟩ := hSw
    have q0 : w'.cell? ⟨w.heap.size, 0, none⟩ = some (.slice (some ⟨gs, 0, none⟩) ss.length cs) := s2.cell rfl
    have q1 : w'.cell? ⟨w.heap.size, 1, none⟩ = some (.slice (some ⟨gl, 0, none⟩) ls.length cl) := s2.cell rfl
    go_simp
    all_goals rfl
  simp only [Act.put, List.setIfInBounds_toArray, List.set_cons_zero, List.set_cons_succ]
  refine wpAnyH_ready (rs := [0, 7]) (by kernel_rfl) (by simp) ?_
  refine (AllReadyH.cons (o := ⟨some 3, _, _, _, _, _⟩) rfl (fun K hK => ?_) (AllReadyH.cons (o := ⟨some 10, _, _, _, _, _⟩) rfl (fun K hK => ?_) AllReadyH.nil))
  · have hSp := hS
    go_simp
    refine hK.out _ _ ⟨grown_alloc hS.1 _, hS.2.1.alloc _, by obtain ⟨ra, rb, h⟩ := hS.2.2; exact ⟨ra, rb, h.alloc _⟩⟩ (fun hS => ?_)
    clear hK K
    have HR3 := Lib.hid (show Row (C0.alloc (Obj.cells #[] 9)) (w.heap.size + 2) (.slice (some ⟨C0.heap.size, 0, none⟩) 0 0) (strs []) from (Row.lit C0 9 []).base (by obtain ⟨_, _, h⟩ := hSp.2.2; have := h.lt; omega))
    generalize C0.alloc (Obj.cells #[] 9) = C1 at hS HR3 ⊢
    refine wpAnyH_ready (rs := [3, 7]) (by kernel_rfl) (by simp) ?_
    refine (AllReadyH.cons (o := ⟨some 6, _, _, _, _, _⟩) rfl (fun K hK => ?_) (AllReadyH.cons (o := ⟨some 10, _, _, _, _, _⟩) rfl (fun K hK => ?_) AllReadyH.nil))
    · refine step_append_row2 rfl _ _ 22 rfl 9 i9 (.string ⟨#[]⟩) 16 Try.underlying22 hi9 hz0 hz1 hz2 rfl (w.heap.size + 2) _ (strs []) rfl HR3.out ⟨gs, 0, none⟩ ss.length cs (strs ss) rfl (strs_len _) (HS.out.kept hS.1 (by simp)) (strs_one _) (by rw [strs_len]; simp only [List.length_nil]; unfold maxLen; omega) (by rw [strs_len]; simp only [List.length_nil]; omega) (by obtain ⟨_, _, h⟩ := hS.2.2; have := h.lt; omega) ?_
      intro v6 C2 HR6 HGA HOA
      refine hK.out _ _ ⟨grown_own hS.1 HGA.out (fun q hq => by have := (HR3.out.lt q hq).1; omega), hS.2.1.kept HGA.out (fun e => by have := (HR3.out.lt _ e.symm).1; omega), by obtain ⟨ra, rb, h⟩ := hS.2.2; exact ⟨ra, rb, h.kept HGA.out (fun e => by have := (HR3.out.lt _ e.symm).1; omega)⟩⟩ (fun hS => ?_)
      clear hK K HGA HOA HR3
      simp only [Act.put, List.setIfInBounds_toArray, List.set_cons_zero, List.set_cons_succ]
      refine wpAnyH_ready (rs := [6, 7]) (by kernel_rfl) (by simp) ?_
      refine (AllReadyH.cons (o := ⟨some 9, _, _, _, _, _⟩) rfl (fun K hK => ?_) (AllReadyH.cons (o := ⟨some 10, _, _, _, _, _⟩) rfl (fun K hK => ?_) AllReadyH.nil))
      · refine step_append_row2 rfl _ _ 22 rfl 9 i9 (.string ⟨#[]⟩) 16 Try.underlying22 hi9 hz0 hz1 hz2 rfl (w.heap.size + 2) _ (strs ss) rfl HR6.out ⟨gl, 0, none⟩ ls.length cl (strs ls) rfl (strs_len _) (HL.out.kept hS.1 (by simp)) (strs_one _) (by rw [strs_len]; unfold maxLen; omega) (by rw [strs_len]; omega) (by obtain ⟨_, _, h⟩ := hS.2.2; have := h.lt; omega) ?_
        intro v9 C3 HR9 HGA HOA
        refine hK.out _ _ ⟨grown_own hS.1 HGA.out (fun q hq => by have := (HR6.out.lt q hq).1; omega), hS.2.1.kept HGA.out (fun e => by have := (HR6.out.lt _ e.symm).1; omega), by obtain ⟨ra, rb, h⟩ := hS.2.2; exact ⟨ra, rb, h.kept HGA.out (fun e => by have := (HR6.out.lt _ e.symm).1; omega)⟩⟩ (fun hS => ?_)
        clear hK K HGA HOA HR6
        simp only [Act.put, List.setIfInBounds_toArray, List.set_cons_zero, List.set_cons_succ]
        refine wpAnyH_ready (rs := [7]) (by kernel_rfl) (by simp) ?_
        refine (AllReadyH.cons (o := ⟨some 10, _, _, _, _, _⟩) rfl (fun K hK => ?_) AllReadyH.nil)
        go_simp
        refine hK.out _ _ ⟨grown_alloc hS.1 _, hS.2.1.alloc _, by obtain ⟨ra, rb, h⟩ := hS.2.2; exact ⟨ra, rb, h.alloc _⟩⟩ (fun hS => ?_)
        clear hK K
        replace HR9 := Lib.hid (HR9.out.alloc (Obj.cells #[] 9))
        generalize C3.alloc (Obj.cells #[] 9) = C4 at hS HR9 ⊢
        generalize C3.heap.size = g10
        have hrow := HR9.out
        rw [show strs ss ++ strs ls = strs (ss ++ ls) from by simp [strs]] at hrow
        have HROW := Lib.hid hrow
        obtain ⟨an, cn, rfl, -⟩ := hrow.lies
        clear hrow HR9
        generalize (ss ++ ls).length = N at HROW ⊢
        refine wpAnyH_take (i := 8) (oi := ⟨some 11, _, _, _, _, _⟩) (v := .agg #[.slice an N cn, .slice (some ⟨g10, 0, none⟩) 0 0]) rfl (by kernel_rfl) (by kernel_rfl) (by kernel_rfl) (fun _ _ _ h => h) (Or.inl ⟨by kernel_rfl, fun w' hSw => ?_⟩) hS ?_
        · go_simp
          all_goals rfl
        simp only [Act.put, List.setIfInBounds_toArray, List.set_cons_zero, List.set_cons_succ]
        obtain ⟨ra, rb, hbr⟩ := hS.2.2
        have HBR := Lib.hid hbr
        have e0 : C4.cell? ⟨w.heap.size + 1, 0, none⟩ = some ra := hbr.cell rfl
        have e1 : C4.cell? ⟨w.heap.size + 1, 1, none⟩ = some rb := hbr.cell rfl
        have f0 := hbr.frozen 0
        have f1 := hbr.frozen 1
        have HSS := Lib.hid hS
        clear hbr hS
        refine wpAnyH_ready (rs := [9]) (by kernel_rfl) (by simp) ?_
        refine AllReadyH.cons (o := ⟨none, _, _, _, _, _⟩) rfl (fun K hK => ?_) AllReadyH.nil
        go_simp
        have hs2 := grown_set (grown_set (grown_refl C4 (some (w.heap.size + 1))) 0 (.slice an N cn)) 1 (.slice (some ⟨g10, 0, none⟩) 0 0)
        have hrB := (HBR.out.set 0 (.slice an N cn)).set 1 (.slice (some ⟨g10, 0, none⟩) 0 0)
        have hrow := HROW.out.kept hs2 (fun q hq e => by have h1 := (HROW.out.lt q hq).1; cases e; omega)
        have hgB := grown_into HSS.out.1 hs2 (by omega)
        refine hK.out _ _ ⟨hgB, HSS.out.2.1.kept hs2 (by simp), _, _, hrB⟩ (fun hS => ?_)
        have HRB := Lib.hid hrB
        have HRO := Lib.hid hrow
        have HGB := Lib.hid hgB
        clear hK K hs2 hrB hrow hgB hS e0 e1 f0 f1 HSS HBR HROW
        generalize (C4.setCell ⟨w.heap.size + 1, 0, none⟩ (.slice an N cn)).setCell ⟨w.heap.size + 1, 1, none⟩ (.slice (some ⟨g10, 0, none⟩) 0 0) = CE at HRB HRO HGB ⊢
        refine wpAnyH_done (by kernel_rfl) ?_ _
        go_wp2
        exact ⟨rfl, _, results_blk1 Try.results10 _ _ (w.heap.size + 1) 26 _ _ HRB.out Try.underlying26 rfl info26 rfl, _, _, _, rfl, HRO.out.base (by omega), HGB.out⟩
      · go_simp
        refine hK.out _ _ ⟨grown_alloc hS.1 _, hS.2.1.alloc _, by obtain ⟨ra, rb, h⟩ := hS.2.2; exact ⟨ra, rb, h.alloc _⟩⟩ (fun hS => ?_)
        clear hK K
        replace HR6 := Lib.hid (HR6.out.alloc (Obj.cells #[] 9))
        generalize C2.alloc (Obj.cells #[] 9) = C3 at hS HR6 ⊢
        generalize C2.heap.size = g10
        refine wpAnyH_ready (rs := [6]) (by kernel_rfl) (by simp) ?_
        refine (AllReadyH.cons (o := ⟨some 9, _, _, _, _, _⟩) rfl (fun K hK => ?_) AllReadyH.nil)
        refine step_append_row2 rfl _ _ 22 rfl 9 i9 (.string ⟨#[]⟩) 16 Try.underlying22 hi9 hz0 hz1 hz2 rfl (w.heap.size + 2) _ (strs ss) rfl HR6.out ⟨gl, 0, none⟩ ls.length cl (strs ls) rfl (strs_len _) (HL.out.kept hS.1 (by simp)) (strs_one _) (by rw [strs_len]; unfold maxLen; omega) (by rw [strs_len]; omega) (by obtain ⟨_, _, h⟩ := hS.2.2; have := h.lt; omega) ?_
        intro v9 C4 HR9 HGA HOA
        refine hK.out _ _ ⟨grown_own hS.1 HGA.out (fun q hq => by have := (HR6.out.lt q hq).1; omega), hS.2.1.kept HGA.out (fun e => by have := (HR6.out.lt _ e.symm).1; omega), by obtain ⟨ra, rb, h⟩ := hS.2.2; exact ⟨ra, rb, h.kept HGA.out (fun e => by have := (HR6.out.lt _ e.symm).1; omega)⟩⟩ (fun hS => ?_)
        clear hK K HGA HOA HR6
        simp only [Act.put, List.setIfInBounds_toArray, List.set_cons_zero, List.set_cons_succ]
        have hrow := HR9.out
        rw [show strs ss ++ strs ls = strs (ss ++ ls) from by simp [strs]] at hrow
        have HROW := Lib.hid hrow
        obtain ⟨an, cn, rfl, -⟩ := hrow.lies
        clear hrow HR9
        generalize (ss ++ ls).length = N at HROW ⊢
        refine wpAnyH_take (i := 8) (oi := ⟨some 11, _, _, _, _, _⟩) (v := .agg #[.slice an N cn, .slice (some ⟨g10, 0, none⟩) 0 0]) rfl (by kernel_rfl) (by kernel_rfl) (by kernel_rfl) (fun _ _ _ h => h) (Or.inl ⟨by kernel_rfl, fun w' hSw => ?_⟩) hS ?_
        · go_simp
          all_goals rfl
        simp only [Act.put, List.setIfInBounds_toArray, List.set_cons_zero, List.set_cons_succ]
        obtain ⟨ra, rb, hbr⟩ := hS.2.2
        have HBR := Lib.hid hbr
        have e0 : C4.cell? ⟨w.heap.size + 1, 0, none⟩ = some ra := hbr.cell rfl
        have e1 : C4.cell? ⟨w.heap.size + 1, 1, none⟩ = some rb := hbr.cell rfl
        have f0 := hbr.frozen 0
        have f1 := hbr.frozen 1
        have HSS := Lib.hid hS
        clear hbr hS
        refine wpAnyH_ready (rs := [9]) (by kernel_rfl) (by simp) ?_
        refine AllReadyH.cons (o := ⟨none, _, _, _, _, _⟩) rfl (fun K hK => ?_) AllReadyH.nil
        go_simp
        have hs2 := grown_set (grown_set (grown_refl C4 (some (w.heap.size + 1))) 0 (.slice an N cn)) 1 (.slice (some ⟨g10, 0, none⟩) 0 0)
        have hrB := (HBR.out.set 0 (.slice an N cn)).set 1 (.slice (some ⟨g10, 0, none⟩) 0 0)
        have hrow := HROW.out.kept hs2 (fun q hq e => by have h1 := (HROW.out.lt q hq).1; cases e; omega)
        have hgB := grown_into HSS.out.1 hs2 (by omega)
        refine hK.out _ _ ⟨hgB, HSS.out.2.1.kept hs2 (by simp), _, _, hrB⟩ (fun hS => ?_)
        have HRB := Lib.hid hrB
        have HRO := Lib.hid hrow
        have HGB := Lib.hid hgB
        clear hK K hs2 hrB hrow hgB hS e0 e1 f0 f1 HSS HBR HROW
        generalize (C4.setCell ⟨w.heap.size + 1, 0, none⟩ (.slice an N cn)).setCell ⟨w.heap.size + 1, 1, none⟩ (.slice (some ⟨g10, 0, none⟩) 0 0) = CE at HRB HRO HGB ⊢
        refine wpAnyH_done (by kernel_rfl) ?_ _
        go_wp2
        exact ⟨rfl, _, results_blk1 Try.results10 _ _ (w.heap.size + 1) 26 _ _ HRB.out Try.underlying26 rfl info26 rfl, _, _, _, rfl, HRO.out.base (by omega), HGB.out⟩
    · go_simp
      refine hK.out _ _ ⟨grown_alloc hS.1 _, hS.2.1.alloc _, by obtain ⟨ra, rb, h⟩ := hS.2.2; exact ⟨ra, rb, h.alloc _⟩⟩ (fun hS => ?_)
      clear hK K
      replace HR3 := Lib.hid (HR3.out.alloc (Obj.cells #[] 9))
      generalize C1.alloc (Obj.cells #[] 9) = C2 at hS HR3 ⊢
      generalize C1.heap.size = g10
      refine wpAnyH_ready (rs := [3]) (by kernel_rfl) (by simp) ?_
      refine (AllReadyH.cons (o := ⟨some 6, _, _, _, _, _⟩) rfl (fun K hK => ?_) AllReadyH.nil)
      refine step_append_row2 rfl _ _ 22 rfl 9 i9 (.string ⟨#[]⟩) 16 Try.underlying22 hi9 hz0 hz1 hz2 rfl (w.heap.size + 2) _ (strs []) rfl HR3.out ⟨gs, 0, none⟩ ss.length cs (strs ss) rfl (strs_len _) (HS.out.kept hS.1 (by simp)) (strs_one _) (by rw [strs_len]; simp only [List.length_nil]; unfold maxLen; omega) (by rw [strs_len]; simp only [List.length_nil]; omega) (by obtain ⟨_, _, h⟩ := hS.2.2; have := h.lt; omega) ?_
      intro v6 C3 HR6 HGA HOA
      refine hK.out _ _ ⟨grown_own hS.1 HGA.out (fun q hq => by have := (HR3.out.lt q hq).1; omega), hS.2.1.kept HGA.out (fun e => by have := (HR3.out.lt _ e.symm).1; omega), by obtain ⟨ra, rb, h⟩ := hS.2.2; exact ⟨ra, rb, h.kept HGA.out (fun e => by have := (HR3.out.lt _ e.symm).1; omega)⟩⟩ (fun hS => ?_)
      clear hK K HGA HOA HR3
      simp only [Act.put, List.setIfInBounds_toArray, List.set_cons_zero, List.set_cons_succ]
      refine wpAnyH_ready (rs := [6]) (by kernel_rfl) (by simp) ?_
      refine (AllReadyH.cons (o := ⟨some 9, _, _, _, _, _⟩) rfl (fun K hK => ?_) AllReadyH.nil)
      refine step_append_row2 rfl _ _ 22 rfl 9 i9 (.string ⟨#[]⟩) 16 Try.underlying22 hi9 hz0 hz1 hz2 rfl (w.heap.size + 2) _ (strs ss) rfl HR6.out ⟨gl, 0, none⟩ ls.length cl (strs ls) rfl (strs_len _) (HL.out.kept hS.1 (by simp)) (strs_one _) (by rw [strs_len]; unfold maxLen; omega) (by rw [strs_len]; omega) (by obtain ⟨_, _, h⟩ := hS.2.2; have := h.lt; omega) ?_
      intro v9 C4 HR9 HGA HOA
      refine hK.out _ _ ⟨grown_own hS.1 HGA.out (fun q hq => by have := (HR6.out.lt q hq).1; omega), hS.2.1.kept HGA.out (fun e => by have := (HR6.out.lt _ e.symm).1; omega), by obtain ⟨ra, rb, h⟩ := hS.2.2; exact ⟨ra, rb, h.kept HGA.out (fun e => by have := (HR6.out.lt _ e.symm).1; omega)⟩⟩ (fun hS => ?_)
      clear hK K HGA HOA HR6
      simp only [Act.put, List.setIfInBounds_toArray, List.set_cons_zero, List.set_cons_succ]
      have hrow := HR9.out
      rw [show strs ss ++ strs ls = strs (ss ++ ls) from by simp [strs]] at hrow
      have HROW := Lib.hid hrow
      obtain ⟨an, cn, rfl, -⟩ := hrow.lies
      clear hrow HR9
      generalize (ss ++ ls).length = N at HROW ⊢
      refine wpAnyH_take (i := 8) (oi := ⟨some 11, _, _, _, _, _⟩) (v := .agg #[.slice an N cn, .slice (some ⟨g10, 0, none⟩) 0 0]) rfl (by kernel_rfl) (by kernel_rfl) (by kernel_rfl) (fun _ _ _ h => h) (Or.inl ⟨by kernel_rfl, fun w' hSw => ?_⟩) hS ?_
      · go_simp
        all_goals rfl
      simp only [Act.put, List.setIfInBounds_toArray, List.set_cons_zero, List.set_cons_succ]
      obtain ⟨ra, rb, hbr⟩ := hS.2.2
      have HBR := Lib.hid hbr
      have e0 : C4.cell? ⟨w.heap.size + 1, 0, none⟩ = some ra := hbr.cell rfl
      have e1 : C4.cell? ⟨w.heap.size + 1, 1, none⟩ = some rb := hbr.cell rfl
      have f0 := hbr.frozen 0
      have f1 := hbr.frozen 1
      have HSS := Lib.hid hS
      clear hbr hS
      refine wpAnyH_ready (rs := [9]) (by kernel_rfl) (by simp) ?_
      refine AllReadyH.cons (o := ⟨none, _, _, _, _, _⟩) rfl (fun K hK => ?_) AllReadyH.nil
      go_simp
      have hs2 := grown_set (grown_set (grown_refl C4 (some (w.heap.size + 1))) 0 (.slice an N cn)) 1 (.slice (some ⟨g10, 0, none⟩) 0 0)
      have hrB := (HBR.out.set 0 (.slice an N cn)).set 1 (.slice (some ⟨g10, 0, none⟩) 0 0)
      have hrow := HROW.out.kept hs2 (fun q hq e => by have h1 := (HROW.out.lt q hq).1; cases e; omega)
      have hgB := grown_into HSS.out.1 hs2 (by omega)
      refine hK.out _ _ ⟨hgB, HSS.out.2.1.kept hs2 (by simp), _, _, hrB⟩ (fun hS => ?_)
      have HRB := Lib.hid hrB
      have HRO := Lib.hid hrow
      have HGB := Lib.hid hgB
      clear hK K hs2 hrB hrow hgB hS e0 e1 f0 f1 HSS HBR HROW
      generalize (C4.setCell ⟨w.heap.size + 1, 0, none⟩ (.slice an N cn)).setCell ⟨w.heap.size + 1, 1, none⟩ (.slice (some ⟨g10, 0, none⟩) 0 0) = CE at HRB HRO HGB ⊢
      refine wpAnyH_done (by kernel_rfl) ?_ _
      go_wp2
      exact ⟨rfl, _, results_blk1 Try.results10 _ _ (w.heap.size + 1) 26 _ _ HRB.out Try.underlying26 rfl info26 rfl, _, _, _, rfl, HRO.out.base (by omega), HGB.out⟩
  · go_simp
    refine hK.out _ _ ⟨grown_alloc hS.1 _, hS.2.1.alloc _, by obtain ⟨ra, rb, h⟩ := hS.2.2; exact ⟨ra, rb, h.alloc _⟩⟩ (fun hS => ?_)
    clear hK K
    generalize C0.alloc (Obj.cells #[] 9) = C1 at hS  ⊢
    generalize C0.heap.size = g10
    refine wpAnyH_ready (rs := [0]) (by kernel_rfl) (by simp) ?_
    refine (AllReadyH.cons (o := ⟨some 3, _, _, _, _, _⟩) rfl (fun K hK => ?_) AllReadyH.nil)
    have hSp := hS
    go_simp
    refine hK.out _ _ ⟨grown_alloc hS.1 _, hS.2.1.alloc _, by obtain ⟨ra, rb, h⟩ := hS.2.2; exact ⟨ra, rb, h.alloc _⟩⟩ (fun hS => ?_)
    clear hK K
    have HR3 := Lib.hid (show Row (C1.alloc (Obj.cells #[] 9)) (w.heap.size + 2) (.slice (some ⟨C1.heap.size, 0, none⟩) 0 0) (strs []) from (Row.lit C1 9 []).base (by obtain ⟨_, _, h⟩ := hSp.2.2; have := h.lt; omega))
    generalize C1.alloc (Obj.cells #[] 9) = C2 at hS HR3 ⊢
    refine wpAnyH_ready (rs := [3]) (by kernel_rfl) (by simp) ?_
    refine (AllReadyH.cons (o := ⟨some 6, _, _, _, _, _⟩) rfl (fun K hK => ?_) AllReadyH.nil)
    refine step_append_row2 rfl _ _ 22 rfl 9 i9 (.string ⟨#[]⟩) 16 Try.underlying22 hi9 hz0 hz1 hz2 rfl (w.heap.size + 2) _ (strs []) rfl HR3.out ⟨gs, 0, none⟩ ss.length cs (strs ss) rfl (strs_len _) (HS.out.kept hS.1 (by simp)) (strs_one _) (by rw [strs_len]; simp only [List.length_nil]; unfold maxLen; omega) (by rw [strs_len]; simp only [List.length_nil]; omega) (by obtain ⟨_, _, h⟩ := hS.2.2; have := h.lt; omega) ?_
    intro v6 C3 HR6 HGA HOA
    refine hK.out _ _ ⟨grown_own hS.1 HGA.out (fun q hq => by have := (HR3.out.lt q hq).1; omega), hS.2.1.kept HGA.out (fun e => by have := (HR3.out.lt _ e.symm).1; omega), by obtain ⟨ra, rb, h⟩ := hS.2.2; exact ⟨ra, rb, h.kept HGA.out (fun e => by have := (HR3.out.lt _ e.symm).1; omega)⟩⟩ (fun hS => ?_)
    clear hK K HGA HOA HR3
    simp only [Act.put, List.setIfInBounds_toArray, List.set_cons_zero, List.set_cons_succ]
    refine wpAnyH_ready (rs := [6]) (by kernel_rfl) (by simp) ?_
    refine (AllReadyH.cons (o := ⟨some 9, _, _, _, _, _⟩) rfl (fun K hK => ?_) AllReadyH.nil)
    refine step_append_row2 rfl _ _ 22 rfl 9 i9 (.string ⟨#[]⟩) 16 Try.underlying22 hi9 hz0 hz1 hz2 rfl (w.heap.size + 2) _ (strs ss) rfl HR6.out ⟨gl, 0, none⟩ ls.length cl (strs ls) rfl (strs_len _) (HL.out.kept hS.1 (by simp)) (strs_one _) (by rw [strs_len]; unfold maxLen; omega) (by rw [strs_len]; omega) (by obtain ⟨_, _, h⟩ := hS.2.2; have := h.lt; omega) ?_
    intro v9 C4 HR9 HGA HOA
    refine hK.out _ _ ⟨grown_own hS.1 HGA.out (fun q hq => by have := (HR6.out.lt q hq).1; omega), hS.2.1.kept HGA.out (fun e => by have := (HR6.out.lt _ e.symm).1; omega), by obtain ⟨ra, rb, h⟩ := hS.2.2; exact ⟨ra, rb, h.kept HGA.out (fun e => by have := (HR6.out.lt _ e.symm).1; omega)⟩⟩ (fun hS => ?_)
    clear hK K HGA HOA HR6
    simp only [Act.put, List.setIfInBounds_toArray, List.set_cons_zero, List.set_cons_succ]
    have hrow := HR9.out
    rw [show strs ss ++ strs ls = strs (ss ++ ls) from by simp [strs]] at hrow
    have HROW := Lib.hid hrow
    obtain ⟨an, cn, rfl, -⟩ := hrow.lies
    clear hrow HR9
    generalize (ss ++ ls).length = N at HROW ⊢
    refine wpAnyH_take (i := 8) (oi := ⟨some 11, _, _, _, _, _⟩) (v := .agg #[.slice an N cn, .slice (some ⟨g10, 0, none⟩) 0 0]) rfl (by kernel_rfl) (by kernel_rfl) (by kernel_rfl) (fun _ _ _ h => h) (Or.inl ⟨by kernel_rfl, fun w' hSw => ?_⟩) hS ?_
    · go_simp
      all_goals rfl
    simp only [Act.put, List.setIfInBounds_toArray, List.set_cons_zero, List.set_cons_succ]
    obtain ⟨ra, rb, hbr⟩ := hS.2.2
    have HBR := Lib.hid hbr
    have e0 : C4.cell? ⟨w.heap.size + 1, 0, none⟩ = some ra := hbr.cell rfl
    have e1 : C4.cell? ⟨w.heap.size + 1, 1, none⟩ = some rb := hbr.cell rfl
    have f0 := hbr.frozen 0
    have f1 := hbr.frozen 1
    have HSS := Lib.hid hS
    clear hbr hS
    refine wpAnyH_ready (rs := [9]) (by kernel_rfl) (by simp) ?_
    refine AllReadyH.cons (o := ⟨none, _, _, _, _, _⟩) rfl (fun K hK => ?_) AllReadyH.nil
    go_simp
    have hs2 := grown_set (grown_set (grown_refl C4 (some (w.heap.size + 1))) 0 (.slice an N cn)) 1 (.slice (some ⟨g10, 0, none⟩) 0 0)
    have hrB := (HBR.out.set 0 (.slice an N cn)).set 1 (.slice (some ⟨g10, 0, none⟩) 0 0)
    have hrow := HROW.out.kept hs2 (fun q hq e => by have h1 := (HROW.out.lt q hq).1; cases e; omega)
    have hgB := grown_into HSS.out.1 hs2 (by omega)
    refine hK.out _ _ ⟨hgB, HSS.out.2.1.kept hs2 (by simp), _, _, hrB⟩ (fun hS => ?_)
    have HRB := Lib.hid hrB
    have HRO := Lib.hid hrow
    have HGB := Lib.hid hgB
    clear hK K hs2 hrB hrow hgB hS e0 e1 f0 f1 HSS HBR HROW
    generalize (C4.setCell ⟨w.heap.size + 1, 0, none⟩ (.slice an N cn)).setCell ⟨w.heap.size + 1, 1, none⟩ (.slice (some ⟨g10, 0, none⟩) 0 0) = CE at HRB HRO HGB ⊢
    refine wpAnyH_done (by kernel_rfl) ?_ _
    go_wp2
    exact ⟨rfl, _, results_blk1 Try.results10 _ _ (w.heap.size + 1) 26 _ _ HRB.out Try.underlying26 rfl info26 rfl, _, _, _, rfl, HRO.out.base (by omega), HGB.out⟩
end Go.Proofs.Ytpmjinlbfddmmaa
