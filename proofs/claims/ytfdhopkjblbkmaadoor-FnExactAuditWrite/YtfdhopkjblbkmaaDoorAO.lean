/- An audit as a text, by the document. -/
import Derived.Test.YtfdhopkjblbkmaaDoorAC
import Derived.Test.YtfdhopkjblbkmaaDoorAN
namespace Go.Proofs.YtfdhopkjblbkmaaDoor
open Go.RowKit

/-- an entry as a line -/
def lineB (n : Nat) (ten wha sum det : ByteArray) : List UInt8 := (decS n).data.toList ++ wordsB [ten, wha, sum, det] ++ [10]
/-- entries as lines, up to some -/
def textB (es : List AE) : Nat → List UInt8
  | 0 => []
  | k + 1 => textB es k ++ ((es[k]?.map fun e => lineB (k + 1) e.ten e.wha e.sum e.det).getD [])
theorem textB_at (es : List AE) (k : Nat) (h : k < es.length) : textB es (k + 1) = textB es k ++ lineB (k + 1) es[k].ten es[k].wha es[k].sum es[k].det := by
  show textB es k ++ ((es[k]?.map fun e => lineB (k + 1) e.ten e.wha e.sum e.det).getD []) = _
  rw [List.getElem?_eq_getElem h]
  rfl
theorem lineB_len (n : Nat) (ten wha sum det : ByteArray) : (lineB n ten wha sum det).length = (decS n).size + ten.size + wha.size + sum.size + det.size + 5 := by
  have k0 : (decS n).data.toList.length = (decS n).size := by simp
  have k1 : ten.data.toList.length = ten.size := by simp
  have k2 : wha.data.toList.length = wha.size := by simp
  have k3 : sum.data.toList.length = sum.size := by simp
  have k4 : det.data.toList.length = det.size := by simp
  simp only [lineB, wordsB, List.length_append, List.length_cons, List.length_nil]
  omega
theorem textB_len (es : List AE) (hz : EZ es) (h200 : es.length ≤ 200) : ∀ k, k ≤ es.length → (textB es k).length ≤ k * 4194400
  | 0, _ => by simp [textB]
  | k + 1, h => by
    have h1 := textB_len es hz h200 k (by omega)
    have h2 := hz es[k] (List.getElem_mem (by omega))
    have h3 := decS_size (k + 1) (by omega)
    rw [textB_at es k (by omega), List.length_append, lineB_len]
    omega
def textS (es : List AE) (k : Nat) : ByteArray := ⟨(textB es k).toArray⟩
theorem size_of (s : ByteArray) (l : List UInt8) (h : s.data.toList = l) : s.size = l.length := by
  rw [← h]; simp

set_option maxRecDepth 100000 in
set_option maxHeartbeats 8000000 in
theorem sline_any (w : World) (n : Nat) (ten wha det sum : ByteArray) (hn : n ≤ 1048577) (h1 : ten.size ≤ 1048576) (h2 : wha.size ≤ 1048576) (h3 : det.size ≤ 1048576) (h4 : sum.size ≤ 1048576) :
    Calls Tryd.prog 29 #[.agg #[.int .i64 (n : Int), .string ten, .string wha, .string det, .string sum]] w fun e w' => (∃ s : ByteArray, e = .returned (.string s) ∧ s.data.toList = lineB n ten wha sum det) ∧ w.grownBy w' none := by
  obtain ⟨W, hW⟩ : ∃ W, w.alloc (Obj.cells #[Value.int .i64 (n : Int), .string ten, .string wha, .string det, .string sum] 37) = W := ⟨_, rfl⟩
  obtain ⟨B, hB⟩ : ∃ x, w.heap.size = x := ⟨_, rfl⟩
  have HG := Lib.hid (show w.grownBy W none from by rw [← hW]; exact grown_alloc (grown_refl _ _) _)
  have HBB := Lib.hid (show Blk W B 37 [.int .i64 (n : Int), .string ten, .string wha, .string det, .string sum] from by rw [← hW, ← hB]; exact Blk.new w 37 _)
  have HC0 := Lib.hid (show W.cell? ⟨B, 0, none⟩ = some (.int .i64 (n : Int)) from HBB.out.cell rfl)
  have HC1 := Lib.hid (show W.cell? ⟨B, 1, none⟩ = some (.string ten) from HBB.out.cell rfl)
  have HC2 := Lib.hid (show W.cell? ⟨B, 2, none⟩ = some (.string wha) from HBB.out.cell rfl)
  have HC3 := Lib.hid (show W.cell? ⟨B, 3, none⟩ = some (.string det) from HBB.out.cell rfl)
  have HC4 := Lib.hid (show W.cell? ⟨B, 4, none⟩ = some (.string sum) from HBB.out.cell rfl)
  have HW := Lib.hid hW
  have HBE := Lib.hid hB
  have hd := decS_size n (by omega)
  obtain ⟨D, hD⟩ : ∃ D, decS n = D := ⟨_, rfl⟩
  rw [hD] at hd
  have HD := Lib.hid hD
  have e1 : (⟨#[32]⟩ : ByteArray).size = 1 := rfl
  have e2 : (⟨#[10]⟩ : ByteArray).size = 1 := rfl
  obtain ⟨C1, hC1⟩ : ∃ x, D ++ ⟨#[32]⟩ = x := ⟨_, rfl⟩
  have yC1 : C1.size = D.size + 1 := by rw [← hC1, ByteArray.size_append]; rfl
  have l0 : ¬ 9223372036854775807 < D.size + 1 := by omega
  obtain ⟨C2, hC2⟩ : ∃ x, C1 ++ ten = x := ⟨_, rfl⟩
  have yC2 : C2.size = C1.size + ten.size := by rw [← hC2, ByteArray.size_append]
  have l1 : ¬ 9223372036854775807 < C1.size + ten.size := by omega
  obtain ⟨C3, hC3⟩ : ∃ x, C2 ++ ⟨#[32]⟩ = x := ⟨_, rfl⟩
  have yC3 : C3.size = C2.size + 1 := by rw [← hC3, ByteArray.size_append]; rfl
  have l2 : ¬ 9223372036854775807 < C2.size + 1 := by omega
  obtain ⟨C4, hC4⟩ : ∃ x, C3 ++ wha = x := ⟨_, rfl⟩
  have yC4 : C4.size = C3.size + wha.size := by rw [← hC4, ByteArray.size_append]
  have l3 : ¬ 9223372036854775807 < C3.size + wha.size := by omega
  obtain ⟨C5, hC5⟩ : ∃ x, C4 ++ ⟨#[32]⟩ = x := ⟨_, rfl⟩
  have yC5 : C5.size = C4.size + 1 := by rw [← hC5, ByteArray.size_append]; rfl
  have l4 : ¬ 9223372036854775807 < C4.size + 1 := by omega
  obtain ⟨C6, hC6⟩ : ∃ x, C5 ++ sum = x := ⟨_, rfl⟩
  have yC6 : C6.size = C5.size + sum.size := by rw [← hC6, ByteArray.size_append]
  have l5 : ¬ 9223372036854775807 < C5.size + sum.size := by omega
  obtain ⟨C7, hC7⟩ : ∃ x, C6 ++ ⟨#[32]⟩ = x := ⟨_, rfl⟩
  have yC7 : C7.size = C6.size + 1 := by rw [← hC7, ByteArray.size_append]; rfl
  have l6 : ¬ 9223372036854775807 < C6.size + 1 := by omega
  obtain ⟨C8, hC8⟩ : ∃ x, C7 ++ det = x := ⟨_, rfl⟩
  have yC8 : C8.size = C7.size + det.size := by rw [← hC8, ByteArray.size_append]
  have l7 : ¬ 9223372036854775807 < C7.size + det.size := by omega
  obtain ⟨C9, hC9⟩ : ∃ x, C8 ++ ⟨#[10]⟩ = x := ⟨_, rfl⟩
  have yC9 : C9.size = C8.size + 1 := by rw [← hC9, ByteArray.size_append]; rfl
  have l8 : ¬ 9223372036854775807 < C8.size + 1 := by omega
  have HFIN := Lib.hid (show C9.data.toList = lineB n ten wha sum det from by
    unfold lineB
    rw [HD.out]
    rw [← hC9, ← hC8, ← hC7, ← hC6, ← hC5, ← hC4, ← hC3, ← hC2, ← hC1]
    simp [wordsB, ByteArray.data_append])
  clear hW hB hD yC1 yC2 yC3 yC4 yC5 yC6 yC7 yC8 yC9
  go_enter Tryd.func29, Tryd.ntmps29
  go_wp2
  rw [HW.out, HBE.out]
  refine wp_region_held_drew (S := fun V => W.grownBy V none) (by kernel_rfl) (grown_drew (grown_refl _ _)) (fun hS => ?_)
  generalize W.drew = V0 at hS  ⊢
  try dsimp only at hS
  refine wpAnyH_take (i := 0) (oi := ⟨some 3, _, _, _, _, _⟩) (v := (.pointer (some ⟨B, 0, none⟩))) rfl (by kernel_rfl) (by kernel_rfl) (by kernel_rfl) (fun _ _ _ h => h) (Or.inl ⟨by kernel_rfl, fun w' hSw => ?_⟩) hS ?_
  · go_simp
    all_goals first | rfl | (simp [*]; done)
  simp only [Act.put, List.setIfInBounds_toArray, List.set_cons_zero, List.set_cons_succ]
  refine wpAnyH_take (i := 1) (oi := ⟨some 4, _, _, _, _, _⟩) (v := (.int .i64 (n : Int))) rfl (by kernel_rfl) (by kernel_rfl) (by kernel_rfl) (fun _ _ _ h => h) (Or.inl ⟨by kernel_rfl, fun w' hSw => ?_⟩) hS ?_
  · have kf0 := World.grownBy.cell hSw HC0.out (by simp)
    go_simp
    all_goals first | rfl | (simp [*]; done)
  simp only [Act.put, List.setIfInBounds_toArray, List.set_cons_zero, List.set_cons_succ]
  refine wpAnyH_take (i := 4) (oi := ⟨some 7, _, _, _, _, _⟩) (v := (.pointer (some ⟨B, 1, none⟩))) rfl (by kernel_rfl) (by kernel_rfl) (by kernel_rfl) (fun _ _ _ h => h) (Or.inl ⟨by kernel_rfl, fun w' hSw => ?_⟩) hS ?_
  · go_simp
    all_goals first | rfl | (simp [*]; done)
  simp only [Act.put, List.setIfInBounds_toArray, List.set_cons_zero, List.set_cons_succ]
  refine wpAnyH_take (i := 5) (oi := ⟨some 8, _, _, _, _, _⟩) (v := (.string ten)) rfl (by kernel_rfl) (by kernel_rfl) (by kernel_rfl) (fun _ _ _ h => h) (Or.inl ⟨by kernel_rfl, fun w' hSw => ?_⟩) hS ?_
  · have kf0 := World.grownBy.cell hSw HC1.out (by simp)
    go_simp
    all_goals first | rfl | (simp [*]; done)
  simp only [Act.put, List.setIfInBounds_toArray, List.set_cons_zero, List.set_cons_succ]
  refine wpAnyH_take (i := 8) (oi := ⟨some 11, _, _, _, _, _⟩) (v := (.pointer (some ⟨B, 2, none⟩))) rfl (by kernel_rfl) (by kernel_rfl) (by kernel_rfl) (fun _ _ _ h => h) (Or.inl ⟨by kernel_rfl, fun w' hSw => ?_⟩) hS ?_
  · go_simp
    all_goals first | rfl | (simp [*]; done)
  simp only [Act.put, List.setIfInBounds_toArray, List.set_cons_zero, List.set_cons_succ]
  refine wpAnyH_take (i := 9) (oi := ⟨some 12, _, _, _, _, _⟩) (v := (.string wha)) rfl (by kernel_rfl) (by kernel_rfl) (by kernel_rfl) (fun _ _ _ h => h) (Or.inl ⟨by kernel_rfl, fun w' hSw => ?_⟩) hS ?_
  · have kf0 := World.grownBy.cell hSw HC2.out (by simp)
    go_simp
    all_goals first | rfl | (simp [*]; done)
  simp only [Act.put, List.setIfInBounds_toArray, List.set_cons_zero, List.set_cons_succ]
  refine wpAnyH_take (i := 12) (oi := ⟨some 15, _, _, _, _, _⟩) (v := (.pointer (some ⟨B, 4, none⟩))) rfl (by kernel_rfl) (by kernel_rfl) (by kernel_rfl) (fun _ _ _ h => h) (Or.inl ⟨by kernel_rfl, fun w' hSw => ?_⟩) hS ?_
  · go_simp
    all_goals first | rfl | (simp [*]; done)
  simp only [Act.put, List.setIfInBounds_toArray, List.set_cons_zero, List.set_cons_succ]
  refine wpAnyH_take (i := 13) (oi := ⟨some 16, _, _, _, _, _⟩) (v := (.string sum)) rfl (by kernel_rfl) (by kernel_rfl) (by kernel_rfl) (fun _ _ _ h => h) (Or.inl ⟨by kernel_rfl, fun w' hSw => ?_⟩) hS ?_
  · have kf0 := World.grownBy.cell hSw HC4.out (by simp)
    go_simp
    all_goals first | rfl | (simp [*]; done)
  simp only [Act.put, List.setIfInBounds_toArray, List.set_cons_zero, List.set_cons_succ]
  refine wpAnyH_take (i := 16) (oi := ⟨some 19, _, _, _, _, _⟩) (v := (.pointer (some ⟨B, 3, none⟩))) rfl (by kernel_rfl) (by kernel_rfl) (by kernel_rfl) (fun _ _ _ h => h) (Or.inl ⟨by kernel_rfl, fun w' hSw => ?_⟩) hS ?_
  · go_simp
    all_goals first | rfl | (simp [*]; done)
  simp only [Act.put, List.setIfInBounds_toArray, List.set_cons_zero, List.set_cons_succ]
  refine wpAnyH_take (i := 17) (oi := ⟨some 20, _, _, _, _, _⟩) (v := (.string det)) rfl (by kernel_rfl) (by kernel_rfl) (by kernel_rfl) (fun _ _ _ h => h) (Or.inl ⟨by kernel_rfl, fun w' hSw => ?_⟩) hS ?_
  · have kf0 := World.grownBy.cell hSw HC3.out (by simp)
    go_simp
    all_goals first | rfl | (simp [*]; done)
  simp only [Act.put, List.setIfInBounds_toArray, List.set_cons_zero, List.set_cons_succ]
  refine wpAnyH_ready (rs := [2]) (by kernel_rfl) (by simp) ?_
  refine AllReadyH.cons (o := ⟨some 5, _, _, _, _, _⟩) rfl (fun K hK => ?_) AllReadyH.nil
  go_simp
  refine (dec_walk n _ (by omega)).mono ?_
  rintro e wa ⟨rfl, hga⟩
  rw [HD.out]
  go_simp
  have hS := grown_trans hS hga
  refine hK.out _ _ hS (fun hS => ?_)
  clear hK hga
  refine wpAnyH_take (i := 3) (oi := ⟨some 6, _, _, _, _, _⟩) (v := (.string C1)) rfl (by kernel_rfl) (by kernel_rfl) (by kernel_rfl) (fun _ _ _ h => h) (Or.inl ⟨by kernel_rfl, fun w' hSw => ?_⟩) hS ?_
  · go_simp
    all_goals first | rfl | (simp [*]; done)
  simp only [Act.put, List.setIfInBounds_toArray, List.set_cons_zero, List.set_cons_succ]
  refine wpAnyH_take (i := 6) (oi := ⟨some 9, _, _, _, _, _⟩) (v := (.string C2)) rfl (by kernel_rfl) (by kernel_rfl) (by kernel_rfl) (fun _ _ _ h => h) (Or.inl ⟨by kernel_rfl, fun w' hSw => ?_⟩) hS ?_
  · go_simp
    all_goals first | rfl | (simp [*]; done)
  simp only [Act.put, List.setIfInBounds_toArray, List.set_cons_zero, List.set_cons_succ]
  refine wpAnyH_take (i := 7) (oi := ⟨some 10, _, _, _, _, _⟩) (v := (.string C3)) rfl (by kernel_rfl) (by kernel_rfl) (by kernel_rfl) (fun _ _ _ h => h) (Or.inl ⟨by kernel_rfl, fun w' hSw => ?_⟩) hS ?_
  · go_simp
    all_goals first | rfl | (simp [*]; done)
  simp only [Act.put, List.setIfInBounds_toArray, List.set_cons_zero, List.set_cons_succ]
  refine wpAnyH_take (i := 10) (oi := ⟨some 13, _, _, _, _, _⟩) (v := (.string C4)) rfl (by kernel_rfl) (by kernel_rfl) (by kernel_rfl) (fun _ _ _ h => h) (Or.inl ⟨by kernel_rfl, fun w' hSw => ?_⟩) hS ?_
  · go_simp
    all_goals first | rfl | (simp [*]; done)
  simp only [Act.put, List.setIfInBounds_toArray, List.set_cons_zero, List.set_cons_succ]
  refine wpAnyH_take (i := 11) (oi := ⟨some 14, _, _, _, _, _⟩) (v := (.string C5)) rfl (by kernel_rfl) (by kernel_rfl) (by kernel_rfl) (fun _ _ _ h => h) (Or.inl ⟨by kernel_rfl, fun w' hSw => ?_⟩) hS ?_
  · go_simp
    all_goals first | rfl | (simp [*]; done)
  simp only [Act.put, List.setIfInBounds_toArray, List.set_cons_zero, List.set_cons_succ]
  refine wpAnyH_take (i := 14) (oi := ⟨some 17, _, _, _, _, _⟩) (v := (.string C6)) rfl (by kernel_rfl) (by kernel_rfl) (by kernel_rfl) (fun _ _ _ h => h) (Or.inl ⟨by kernel_rfl, fun w' hSw => ?_⟩) hS ?_
  · go_simp
    all_goals first | rfl | (simp [*]; done)
  simp only [Act.put, List.setIfInBounds_toArray, List.set_cons_zero, List.set_cons_succ]
  refine wpAnyH_take (i := 15) (oi := ⟨some 18, _, _, _, _, _⟩) (v := (.string C7)) rfl (by kernel_rfl) (by kernel_rfl) (by kernel_rfl) (fun _ _ _ h => h) (Or.inl ⟨by kernel_rfl, fun w' hSw => ?_⟩) hS ?_
  · go_simp
    all_goals first | rfl | (simp [*]; done)
  simp only [Act.put, List.setIfInBounds_toArray, List.set_cons_zero, List.set_cons_succ]
  refine wpAnyH_take (i := 18) (oi := ⟨some 21, _, _, _, _, _⟩) (v := (.string C8)) rfl (by kernel_rfl) (by kernel_rfl) (by kernel_rfl) (fun _ _ _ h => h) (Or.inl ⟨by kernel_rfl, fun w' hSw => ?_⟩) hS ?_
  · go_simp
    all_goals first | rfl | (simp [*]; done)
  simp only [Act.put, List.setIfInBounds_toArray, List.set_cons_zero, List.set_cons_succ]
  refine wpAnyH_take (i := 19) (oi := ⟨some 22, _, _, _, _, _⟩) (v := (.string C9)) rfl (by kernel_rfl) (by kernel_rfl) (by kernel_rfl) (fun _ _ _ h => h) (Or.inl ⟨by kernel_rfl, fun w' hSw => ?_⟩) hS ?_
  · go_simp
    all_goals first | rfl | (simp [*]; done)
  simp only [Act.put, List.setIfInBounds_toArray, List.set_cons_zero, List.set_cons_succ]
  refine wpAnyH_take (i := 20) (oi := ⟨some 2, _, _, _, _, _⟩) (v := (.string C9)) rfl (by kernel_rfl) (by kernel_rfl) (by kernel_rfl) (fun _ _ _ h => h) (Or.inl ⟨by kernel_rfl, fun w' hSw => ?_⟩) hS ?_
  · go_simp
    all_goals first | rfl | (simp [*]; done)
  simp only [Act.put, List.setIfInBounds_toArray, List.set_cons_zero, List.set_cons_succ]
  refine wpAnyH_done (by kernel_rfl) ?_ _
  have HS := Lib.hid hS
  clear hS
  go_wp2
  go_ret
  exact ⟨⟨C9, rfl, HFIN.out⟩, grown_trans HG.out HS.out⟩

set_option maxRecDepth 100000 in
set_option maxHeartbeats 16000000 in
theorem swriteA_any (w : World) (es : List AE) (ao : Option Addr) (cap base : Nat) (hl : ELies w base ao es) (hn : es.length ≤ 1048576) (hcap : es.length ≤ cap) (hz : EZ es) :
    Calls Tryd.prog 15 #[.slice ao es.length cap] w fun e w' => ((AuditP es ∧ e = .returned (.string (textS es es.length))) ∨ (¬ AuditP es ∧ e = .returned (.string ⟨#[]⟩))) ∧ w.grownBy w' none := by
  have HL := Lib.hid hl
  have HN := Lib.hid hn
  have HZ := Lib.hid hz
  have HAU := Lib.hid (saudit_any w es ao cap base hl hn hcap hz)
  clear hl hz hcap
  go_enter Tryd.func15, Tryd.ntmps15
  go_wp2_with fail
  refine HAU.out.mono ?_
  rintro e w1 ⟨⟨t, rfl, ht⟩, hg1⟩
  have HG1 := Lib.hid hg1
  clear hg1 HAU
  cases t
  case false =>
    have HD := Lib.hid (show ¬ AuditP es from fun h => by have := ht.2 h; cases this)
    clear ht
    go_wp2
    go_ret
    exact ⟨.inr ⟨HD.out, rfl⟩, HG1.out⟩
  have HD := Lib.hid (show AuditP es from ht.1 (by first | trivial | rfl))
  have h200 : es.length ≤ 200 := HD.out.1
  have HTL := Lib.hid (textB_len es HZ.out h200)
  have hnI : (es.length : Int) ≤ 200 := by omega
  clear ht
  go_wp2
  go_loopw [3, 4] (fun t i wr => ∃ (k : Nat) (T : ByteArray), k ≤ es.length ∧ i = .int .i64 k ∧ t = .string T ∧ Hid (T.data.toList = textB es k) ∧ Hid (w.grownBy wr none)) (fun _ i _ => es.length - (intOf i).toNat)
  case atStart => exact ⟨0, ⟨#[]⟩, Nat.zero_le _, rfl, rfl, Lib.hid rfl, HG1⟩
  case round =>
    obtain ⟨k, T, hk, rfl, rfl, HTX, HG⟩ := hrel
    by_cases hlt : k < es.length
    · have hkI : (k : Int) < es.length := by omega
      obtain ⟨E, hE⟩ : ∃ E, es[k] = E := ⟨_, rfl⟩
      have HST := Lib.hid (HD.out.2 k hlt)
      have HZE := HZ.out es[k] (List.getElem_mem hlt)
      have HTN := Lib.hid (textB_at es k hlt)
      rw [hE] at HST HZE HTN
      obtain ⟨z1, z2, z3, z4⟩ := HZE
      rcases HL.out with h0 | ⟨ab, oo, rfl, -, hc⟩
      · omega
      have hce := (hc k hlt).kept HG.out (by simp)
      rw [hE] at hce
      have hts := HTL.out k hk
      have hTs := size_of T _ HTX.out
      clear hc hE
      obtain ⟨sq, ten, wha, det, sm⟩ := E
      obtain ⟨x0, x1, x2, x3, x4⟩ := hce
      simp only at x0 x1 x2 x3 x4 z1 z2 z3 z4 HTN
      have hsq : sq = (k : Int) + 1 := HST.out.1
      subst hsq
      have HLI := Lib.hid (show Calls Tryd.prog 29 #[.agg #[.int .i64 ((k : Int) + 1), .string ten, .string wha, .string det, .string sm]] wr (fun e w' => (∃ s : ByteArray, e = .returned (.string s) ∧ s.data.toList = lineB (k + 1) ten wha sm det) ∧ wr.grownBy w' none) from by
        have := sline_any wr (k + 1) ten wha det sm (by omega) z1 z2 z3 z4
        rw [show ((k + 1 : Nat) : Int) = (k : Int) + 1 from by omega] at this
        exact this)
      have HLL := Lib.hid (lineB_len (k + 1) ten wha sm det)
      have HDS := Lib.hid (decS_size (k + 1) (by omega))
      go_wp2_with fail
      refine HLI.out.mono ?_
      rintro e w2 ⟨⟨s, rfl, hs⟩, hg2⟩
      have HG2 := Lib.hid (grown_trans HG.out hg2)
      have hss := size_of s _ hs
      have hkk : k * 4194400 ≤ 838880000 := by omega
      have m1 : ¬ 9223372036854775807 < T.size + s.size := by have := HLL.out; have := HDS.out; omega
      have HTX2 := Lib.hid (show (T ++ s).data.toList = textB es (k + 1) from by
        rw [HTN.out, ← HTX.out, ← hs]
        simp [ByteArray.data_append])
      clear hs hss hg2 HLI x0 x1 x2 x3 x4 hts hTs
      go_wp2
      go_roundw
      case rel => exact ⟨k + 1, T ++ s, by omega, by go_num, rfl, HTX2, HG2⟩
      case measure => simp [intOf]; omega
    · obtain rfl : k = es.length := by omega
      have HT := Lib.hid (show T = textS es es.length from ByteArray.ext (Array.ext' (by rw [HTX.out]; simp [textS])))
      go_wp2
      go_ret
      exact ⟨.inl ⟨HD.out, by rw [HT.out]; rfl⟩, HG.out⟩
end Go.Proofs.YtfdhopkjblbkmaaDoor
