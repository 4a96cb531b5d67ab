/- FnAuditView, walked. -/
import Derived.Test.YtdelijobaebfnaaDoorDE
import Derived.Test.YtdelijobaebfnaaDoorQ7
namespace Go.Proofs.YtdelijobaebfnaaDoor
open Go.RowKit

set_option maxRecDepth 100000 in
set_option maxHeartbeats 8000000 in
theorem drawAV_any (w : World) (ao : Option Addr) (n cap : Nat) (hn : n ≤ 1048576) (hcap : n ≤ cap) (hc : Came w ao n) :
    Calls Tryd.prog 19 #[.slice ao n cap] w fun e w' => (∃ (M : List AE) (g cp : Nat) (tn : ByteArray), e = .returned (.tuple #[.slice (some ⟨g, 0, none⟩) M.length cp, .string tn]) ∧ M.length ≤ 200 ∧ Own w' w.heap.size g cp M ∧ EB 1001 M ∧ tn.size ≤ 4 ∧ (tn.toList == (⟨#[115, 111, 109, 101, 111, 110, 101]⟩ : ByteArray).toList) = false) ∧ w.grownBy w' none := by
  have HO := Lib.hid (open_any w ao n cap hn hcap hc)
  clear hc
  go_enter Tryd.func19, Tryd.ntmps19
  go_wp2_with fail
  refine HO.out.mono ?_
  rintro e w1 ⟨rfl, ⟨n', hr1⟩, hg1⟩
  have HG1 := Lib.hid hg1
  obtain ⟨rb, hrb⟩ : ∃ x, w.heap.size = x := ⟨_, rfl⟩
  rw [hrb] at hr1 ⊢
  have HRB := Lib.hid (show w.heap.size = rb ∧ rb < w1.heap.size from ⟨hrb, hr1.lt⟩)
  have HA := Lib.hid (any17_any w1 rb ao n' cap 0 hr1 (by omega))
  clear hr1 hg1 hrb HO
  go_wp2_with fail
  refine HA.out.mono ?_
  rintro e w2 ⟨⟨M, g, cp, p', rfl, hM, how, heb, hr2, hp2⟩, hg2⟩
  have HO2 := Lib.hid (how.low (Nat.le_of_lt HRB.out.2))
  have HE2 := Lib.hid heb
  have HGN := Lib.hid (show g ≠ rb from by have := how.ec.1; have := HRB.out.2; omega)
  have HG2 := Lib.hid (grown_into HG1.out hg2 (by have := HRB.out.1; omega))
  have HF1 := Lib.hid (ofl_any w2 rb ao n' cap p' hr2 (by omega) [⟨#[97, 99, 109, 101]⟩, ⟨#[98, 101, 116, 97]⟩, ⟨#[110, 111, 110, 101]⟩] (by decide) (by decide))
  clear how heb hr2 hg2 HA
  go_wp2_with fail
  refine HF1.out.mono ?_
  rintro e w3 ⟨s1, hm1, rfl, hr3, hg3⟩
  have HM1 := Lib.hid (show s1.size ≤ 4 ∧ (s1.toList == (⟨#[115, 111, 109, 101, 111, 110, 101]⟩ : ByteArray).toList) = false from by simp at hm1; rcases hm1 with rfl | rfl | rfl <;> exact ⟨by decide, by rw [ByteArray.toList_eq, ByteArray.toList_eq]; decide⟩)
  have HG3 := Lib.hid (grown_into HG2.out hg3 (by have := HRB.out.1; omega))
  have HO3 := Lib.hid (HO2.out.kept hg3 (fun e => HGN.out (Option.some.inj e)))
  clear hm1 hr3 hg3 HF1
  go_wp2
  (try simp only [Exit.inBlock, Exit.then])
  go_ret2
  exact ⟨⟨M, g, cp, s1, rfl, hM, HO3.out.low (by have := HRB.out; omega), HE2.out, HM1.out.1, HM1.out.2⟩, HG3.out⟩
theorem bulkE_EB {b : Nat} : ∀ {M : List AE}, EB b M → bulkE M ≤ M.length * (4 * b)
  | [], _ => Nat.zero_le _
  | e :: M, h => by
    have h1 := h e (by simp)
    have h2 := bulkE_EB (fun e' he' => h e' (List.mem_cons_of_mem _ he') : EB b M)
    obtain ⟨a1, a2, a3, a4, -, -⟩ := h1
    show eB e + bulkE M ≤ (M.length + 1) * (4 * b)
    unfold eB
    rw [Nat.succ_mul]
    omega
theorem EB.small {M : List AE} (h : EB 1001 M) (hn : M.length ≤ 201) : M.length + bulkE M ≤ 1048576 := by
  have := bulkE_EB h
  have h2 : M.length * (4 * 1001) ≤ 201 * (4 * 1001) := Nat.mul_le_mul_right _ hn
  omega
/-- what is seen, cell by cell -/
theorem seenV_at (ps : List (ByteArray × ByteArray)) : ∀ (k : Nat) (h : k < ps.length), (seenV ps)[k * 2]? = some (.string ps[k].1) ∧ (seenV ps)[k * 2 + 1]? = some (.string ps[k].2) := by
  induction ps with
  | nil => intro k h; simp at h
  | cons p ps ih =>
    intro k h
    cases k with
    | zero => exact ⟨rfl, rfl⟩
    | succ k =>
      have := ih k (by simpa using h)
      rw [show (k + 1) * 2 = k * 2 + 1 + 1 from by omega]
      exact this
/-- what is seen lies there -/
def SC (w : World) (va : Option Addr) (ps : List (ByteArray × ByteArray)) : Prop := ps.length = 0 ∨ ∃ b, va = some ⟨b, 0, none⟩ ∧ ∀ k p, ps[k]? = some p → w.cell? ⟨b, k * 2, none⟩ = some (.string p.1) ∧ w.cell? ⟨b, k * 2 + 1, none⟩ = some (.string p.2)
theorem RowT.srow {w : World} {base : Nat} {v : Value} {ps : List (ByteArray × ByteArray)} (h : RowT w base v ps.length (seenV ps)) : ∃ (va : Option Addr) (c : Nat), v = .slice va ps.length c ∧ SC w va ps := by
  rcases h.2 with ⟨rfl, h0⟩ | ⟨g, cap, rfl, -, -, -, hc, -⟩
  · exact ⟨none, 0, by rw [h0], .inl h0⟩
  · refine ⟨_, cap, rfl, .inr ⟨g, rfl, fun k p hp => ?_⟩⟩
    have hk : k < ps.length := (List.getElem?_eq_some_iff.1 hp).1
    have he : ps[k] = p := (List.getElem?_eq_some_iff.1 hp).2
    have := seenV_at ps k hk
    rw [he] at this
    exact ⟨(hc (k * 2) (by omega)).trans this.1, (hc (k * 2 + 1) (by omega)).trans this.2⟩
theorem SC.kept {w w' : World} {va : Option Addr} {ps : List (ByteArray × ByteArray)} (h : SC w va ps) (hg : w.grownBy w' none) : SC w' va ps := by
  rcases h with h | ⟨b, rfl, h⟩
  · exact .inl h
  · exact .inr ⟨b, rfl, fun k p hp => ⟨hg.cell (h k p hp).1 (by simp), hg.cell (h k p hp).2 (by simp)⟩⟩
theorem viewL_app (A B : List AE) (tn : ByteArray) : viewL (A ++ B) tn = viewL A tn ++ viewL B tn := by
  simp [viewL]
theorem viewL_at (M : List AE) (tn : ByteArray) (k : Nat) (hk : k < M.length) (h : (M[k].ten.toList == tn.toList) = true) : (viewL (M.take k) tn).length < (viewL M tn).length ∧ (viewL M tn)[(viewL (M.take k) tn).length]? = some (M[k].wha, M[k].det) := by
  have e : viewL M tn = viewL (M.take k) tn ++ ((M[k].wha, M[k].det) :: viewL (M.drop (k + 1)) tn) := by
    conv => lhs; rw [← List.take_append_drop (k + 1) M]
    rw [viewL_app, viewL_yes M tn k hk h, List.append_assoc]
    rfl
  rw [e]
  exact ⟨by simp, by rw [List.getElem?_append_right (Nat.le_refl _), Nat.sub_self]; rfl⟩

set_option maxRecDepth 100000 in
set_option maxHeartbeats 32000000 in
theorem auditView_walk (w : World) (hT : Tabs w) (hP : Pow w) (a : Addr) (hU : UnfC w a) (ao : Option Addr) (n cap : Nat) (hcap : n ≤ cap) (hc : Came w ao n) :
    Calls Tryd.prog 5 #[.slice ao n cap] w fun e w' => e = .returned (.bool true) ∧ w.grownBy w' none := by
  by_cases hn : (n : Int) > 1048576
  · clear hc hT hP hU
    go_enter Tryd.func5, Tryd.ntmps5
    go_wp2
    go_ret
    exact ⟨rfl, grown_refl _ _⟩
  have hn' : (n : Int) ≤ 1048576 := by omega
  have HT := Lib.hid hT
  have HP := Lib.hid hP
  have HU := Lib.hid hU
  have HD := Lib.hid (drawAV_any w ao n cap (by omega) hcap hc)
  clear hT hP hU hc
  go_enter Tryd.func5, Tryd.ntmps5
  go_wp2_with fail
  refine HD.out.mono ?_
  rintro e w1 ⟨⟨M, g, cp, tn, rfl, hM, how, heb, h4, hts⟩, hg1⟩
  have HE1 := Lib.hid how.ec.2.2
  have HCP := Lib.hid (show M.length ≤ cp ∧ M.length ≤ 200 from ⟨how.ec.2.1, hM⟩)
  have HZ := Lib.hid (heb.ez (by omega))
  have HB := Lib.hid heb
  have HTS := Lib.hid (And.intro h4 hts)
  have HG1 := Lib.hid hg1
  obtain ⟨ps, hps⟩ : ∃ x, viewL M tn = x := ⟨_, rfl⟩
  have HPS := Lib.hid hps
  have HPL := Lib.hid (show ps.length ≤ 200 from by have := viewL_len M tn M.length; rw [List.take_length, hps] at this; omega)
  have HV := Lib.hid (iview_any w1 g M (some ⟨g, 0, none⟩) cp HE1.out.ents (heb.small (by omega)) tn)
  rw [hps] at HV
  obtain ⟨t, ht⟩ : ∃ t : Bool, Hid (t = true ↔ AuditP M) := by
    by_cases h : AuditP M
    · exact ⟨true, Lib.hid (by simp [h])⟩
    · exact ⟨false, Lib.hid (by simp [h])⟩
  have htt : (t != t) = false := by simp
  clear how heb h4 hts hg1 hM hps HD
  go_wp2_with fail
  refine HV.out.mono ?_
  rintro e w2 ⟨v, rfl, hrow, hg2⟩
  obtain ⟨va, c1, rfl, hsc⟩ := hrow.srow
  have HG2 := Lib.hid (grown_trans HG1.out hg2)
  have HE2 := Lib.hid (HE1.out.kept hg2 (by simp))
  have HSC2 := Lib.hid hsc
  have HV2 := Lib.hid (sview_any w2 g M (some ⟨g, 0, none⟩) cp HE2.out.ents (HB.out.small (by have := HCP.out.2; omega)) tn)
  rw [HPS.out] at HV2
  clear hrow hsc hg2 HV
  go_wp2_with fail
  refine HV2.out.mono ?_
  rintro e w3 ⟨v, rfl, hrow, hg3⟩
  obtain ⟨vb, c2, rfl, -⟩ := hrow.srow
  have HG3 := Lib.hid (grown_trans HG2.out hg3)
  have HE3 := Lib.hid (HE2.out.kept hg3 (by simp))
  have HSC3 := Lib.hid (HSC2.out.kept hg3)
  clear hrow hg3 HV2
  have HIO := Lib.hid (iaudit_any w3 (HT.out.grown HG3.out) (HP.out.grown HG3.out) a (HU.out.grown HG3.out) M (some ⟨g, 0, none⟩) cp g HE3.out.ents (by have := HCP.out.2; omega) HZ.out)
  go_wp2_with fail
  refine HIO.out.mono ?_
  rintro e w4 ⟨hs, hga⟩
  obtain rfl := hs.is_bool ht.out
  have HG4 := Lib.hid (grown_trans HG3.out hga)
  have HE4 := Lib.hid (HE3.out.kept hga (by simp))
  have HSC4 := Lib.hid (HSC3.out.kept hga)
  have HSO := Lib.hid (saudit_any w4 M (some ⟨g, 0, none⟩) cp g HE4.out.ents (by have := HCP.out.2; omega) HCP.out.1 HZ.out)
  clear hs hga HIO
  go_wp2_with fail
  refine HSO.out.mono ?_
  rintro e w5 ⟨hs, hgb⟩
  obtain rfl := hs.is_bool ht.out
  have HG5 := Lib.hid (grown_trans HG4.out hgb)
  have HE5 := Lib.hid (HE4.out.kept hgb (by simp))
  have HSC5 := Lib.hid (HSC4.out.kept hgb)
  clear hs hgb HSO
  go_wp2
  go_loopw [7, 8] (fun nv iv wr => ∃ k : Nat, k ≤ M.length ∧ iv = .int .i64 k ∧ nv = .int .i64 ((viewL (M.take k) tn).length : Int) ∧ Hid (w5.grownBy wr none)) (fun _ iv _ => M.length - (intOf iv).toNat)
  case atStart => exact ⟨0, Nat.zero_le _, rfl, rfl, Lib.hid (grown_refl _ _)⟩
  case round =>
    obtain ⟨k, hk, rfl, rfl, HG⟩ := hrel
    have hkB : M.length ≤ 200 := HCP.out.2
    obtain ⟨q, hq⟩ : ∃ x, (viewL (M.take k) tn).length = x := ⟨_, rfl⟩
    have HQ := Lib.hid hq
    have HQB := Lib.hid (show q ≤ 200 from by have := viewL_len M tn k; omega)
    rw [hq]
    clear hq
    by_cases hlt : k < M.length
    · have t1 := (HE5.out.kept HG.out (by simp)).ents
      obtain ⟨d0, d1, d2, d3, d4⟩ : Ent wr g (0 + k * 5) M[k] := by
        rcases t1 with h | ⟨ab, oo, e, -, h⟩
        · omega
        · injection e with e1
          injection e1 with e2 e3
          have := h k hlt
          rw [e2, e3]
          exact this
      simp only [Nat.zero_add] at d0 d1 d2 d3 d4
      have hkI : (k : Int) < M.length := by omega
      by_cases hyes : (M[k].ten.toList == tn.toList) = true
      · have hva := viewL_at M tn k hlt hyes
        rw [HQ.out, HPS.out] at hva
        obtain ⟨b, rfl, hcell⟩ : ∃ b, va = some ⟨b, 0, none⟩ ∧ ∀ k p, ps[k]? = some p → wr.cell? ⟨b, k * 2, none⟩ = some (.string p.1) ∧ wr.cell? ⟨b, k * 2 + 1, none⟩ = some (.string p.2) := by
          rcases HSC5.out.kept HG.out with h | h
          · omega
          · exact h
        obtain ⟨f0, f1⟩ := hcell q _ hva.2
        simp only at f0 f1
        have HVY := Lib.hid (show (viewL (M.take (k + 1)) tn).length = q + 1 from by rw [viewL_yes M tn k hlt hyes, List.length_append, HQ.out]; rfl)
        have D1 := Lib.hid d1
        have D2 := Lib.hid d2
        have D3 := Lib.hid d3
        have F0 := Lib.hid f0
        have F1 := Lib.hid f1
        have hqI : (q : Int) < ps.length := by have := hva.1; omega
        have hqB : (q : Int) ≤ 200 := by have := HQB.out; omega
        obtain ⟨wh, hwh⟩ : ∃ x, M[k].wha = x := ⟨_, rfl⟩
        obtain ⟨de, hde⟩ : ∃ x, M[k].det = x := ⟨_, rfl⟩
        rw [hwh] at F0 D2
        rw [hde] at F1 D3
        have te : (wh.toList != wh.toList) = false := by simp
        have td : (de.toList != de.toList) = false := by simp
        clear hva hcell d0 d2 d3 d4 f0 f1 t1 hwh hde D1
        go_wp2
        refine wp_region_held_drew (S := fun V => wr.grownBy V none) (by kernel_rfl) (grown_drew (grown_refl _ _)) (fun hS => ?_)
        generalize wr.drew = V0 at hS  ⊢
        try dsimp only at hS
        refine wpAnyH_take (i := 0) (oi := ⟨some 50, _, _, _, _, _⟩) (v := (.slice (some ⟨b, 0, none⟩) ps.length c1)) rfl (by kernel_rfl) (by kernel_rfl) (by kernel_rfl) (fun _ _ _ h => h) (Or.inl ⟨by kernel_rfl, fun w' hSw => ?_⟩) hS ?_
        · go_simp
          all_goals first | rfl | (simp [*]; done)
        simp only [Act.put, List.setIfInBounds_toArray, List.set_cons_zero, List.set_cons_succ]
        refine wpAnyH_take (i := 1) (oi := ⟨some 51, _, _, _, _, _⟩) (v := (.int .i64 (q : Int))) rfl (by kernel_rfl) (by kernel_rfl) (by kernel_rfl) (fun _ _ _ h => h) (Or.inl ⟨by kernel_rfl, fun w' hSw => ?_⟩) hS ?_
        · go_simp
          all_goals first | rfl | (simp [*]; done)
        simp only [Act.put, List.setIfInBounds_toArray, List.set_cons_zero, List.set_cons_succ]
        refine wpAnyH_take (i := 2) (oi := ⟨some 52, _, _, _, _, _⟩) (v := (.pointer (some ⟨b, q * 2, none⟩))) rfl (by kernel_rfl) (by kernel_rfl) (by kernel_rfl) (fun _ _ _ h => h) (Or.inl ⟨by kernel_rfl, fun w' hSw => ?_⟩) hS ?_
        · go_simp
          all_goals first | rfl | (simp [*]; done)
        simp only [Act.put, List.setIfInBounds_toArray, List.set_cons_zero, List.set_cons_succ]
        refine wpAnyH_take (i := 3) (oi := ⟨some 53, _, _, _, _, _⟩) (v := (.pointer (some ⟨b, q * 2, none⟩))) rfl (by kernel_rfl) (by kernel_rfl) (by kernel_rfl) (fun _ _ _ h => h) (Or.inl ⟨by kernel_rfl, fun w' hSw => ?_⟩) hS ?_
        · go_simp
          all_goals first | rfl | (simp [*]; done)
        simp only [Act.put, List.setIfInBounds_toArray, List.set_cons_zero, List.set_cons_succ]
        refine wpAnyH_take (i := 4) (oi := ⟨some 54, _, _, _, _, _⟩) (v := (.string wh)) rfl (by kernel_rfl) (by kernel_rfl) (by kernel_rfl) (fun _ _ _ h => h) (Or.inl ⟨by kernel_rfl, fun w' hSw => ?_⟩) hS ?_
        · have kf0 := World.grownBy.cell hSw F0.out (by simp)
          go_simp
          all_goals first | rfl | (simp [*]; done)
        simp only [Act.put, List.setIfInBounds_toArray, List.set_cons_zero, List.set_cons_succ]
        refine wpAnyH_take (i := 5) (oi := ⟨some 55, _, _, _, _, _⟩) (v := (.slice (some ⟨g, 0, none⟩) M.length cp)) rfl (by kernel_rfl) (by kernel_rfl) (by kernel_rfl) (fun _ _ _ h => h) (Or.inl ⟨by kernel_rfl, fun w' hSw => ?_⟩) hS ?_
        · go_simp
          all_goals first | rfl | (simp [*]; done)
        simp only [Act.put, List.setIfInBounds_toArray, List.set_cons_zero, List.set_cons_succ]
        refine wpAnyH_take (i := 6) (oi := ⟨some 56, _, _, _, _, _⟩) (v := (.int .i64 (k : Int))) rfl (by kernel_rfl) (by kernel_rfl) (by kernel_rfl) (fun _ _ _ h => h) (Or.inl ⟨by kernel_rfl, fun w' hSw => ?_⟩) hS ?_
        · go_simp
          all_goals first | rfl | (simp [*]; done)
        simp only [Act.put, List.setIfInBounds_toArray, List.set_cons_zero, List.set_cons_succ]
        refine wpAnyH_take (i := 7) (oi := ⟨some 57, _, _, _, _, _⟩) (v := (.pointer (some ⟨g, k * 5, none⟩))) rfl (by kernel_rfl) (by kernel_rfl) (by kernel_rfl) (fun _ _ _ h => h) (Or.inl ⟨by kernel_rfl, fun w' hSw => ?_⟩) hS ?_
        · go_simp
          all_goals first | rfl | (simp [*]; done)
        simp only [Act.put, List.setIfInBounds_toArray, List.set_cons_zero, List.set_cons_succ]
        refine wpAnyH_take (i := 8) (oi := ⟨some 58, _, _, _, _, _⟩) (v := (.pointer (some ⟨g, k * 5 + 2, none⟩))) rfl (by kernel_rfl) (by kernel_rfl) (by kernel_rfl) (fun _ _ _ h => h) (Or.inl ⟨by kernel_rfl, fun w' hSw => ?_⟩) hS ?_
        · go_simp
          all_goals first | rfl | (simp [*]; done)
        simp only [Act.put, List.setIfInBounds_toArray, List.set_cons_zero, List.set_cons_succ]
        refine wpAnyH_take (i := 9) (oi := ⟨some 59, _, _, _, _, _⟩) (v := (.string wh)) rfl (by kernel_rfl) (by kernel_rfl) (by kernel_rfl) (fun _ _ _ h => h) (Or.inl ⟨by kernel_rfl, fun w' hSw => ?_⟩) hS ?_
        · have kf0 := World.grownBy.cell hSw D2.out (by simp)
          go_simp
          all_goals first | rfl | (simp [*]; done)
        simp only [Act.put, List.setIfInBounds_toArray, List.set_cons_zero, List.set_cons_succ]
        refine wpAnyH_take (i := 10) (oi := ⟨some 60, _, _, _, _, _⟩) (v := (.bool false)) rfl (by kernel_rfl) (by kernel_rfl) (by kernel_rfl) (fun _ _ _ h => h) (Or.inl ⟨by kernel_rfl, fun w' hSw => ?_⟩) hS ?_
        · go_simp
          all_goals first | rfl | (simp [*]; done)
        simp only [Act.put, List.setIfInBounds_toArray, List.set_cons_zero, List.set_cons_succ]
        refine wpAnyH_take (i := 11) (oi := ⟨some 61, _, _, _, _, _⟩) (v := (.bool false)) rfl (by kernel_rfl) (by kernel_rfl) (by kernel_rfl) (fun _ _ _ h => h) (Or.inl ⟨by kernel_rfl, fun w' hSw => ?_⟩) hS ?_
        · go_simp
          all_goals first | rfl | (simp [*]; done)
        simp only [Act.put, List.setIfInBounds_toArray, List.set_cons_zero, List.set_cons_succ]
        refine wpAnyH_take (i := 12) (oi := ⟨some 62, _, _, _, _, _⟩) (v := (.slice (some ⟨b, 0, none⟩) ps.length c1)) rfl (by kernel_rfl) (by kernel_rfl) (by kernel_rfl) (fun _ _ _ h => h) (Or.inl ⟨by kernel_rfl, fun w' hSw => ?_⟩) hS ?_
        · go_simp
          all_goals first | rfl | (simp [*]; done)
        simp only [Act.put, List.setIfInBounds_toArray, List.set_cons_zero, List.set_cons_succ]
        refine wpAnyH_take (i := 13) (oi := ⟨some 63, _, _, _, _, _⟩) (v := (.int .i64 (q : Int))) rfl (by kernel_rfl) (by kernel_rfl) (by kernel_rfl) (fun _ _ _ h => h) (Or.inl ⟨by kernel_rfl, fun w' hSw => ?_⟩) hS ?_
        · go_simp
          all_goals first | rfl | (simp [*]; done)
        simp only [Act.put, List.setIfInBounds_toArray, List.set_cons_zero, List.set_cons_succ]
        refine wpAnyH_take (i := 14) (oi := ⟨some 64, _, _, _, _, _⟩) (v := (.pointer (some ⟨b, q * 2, none⟩))) rfl (by kernel_rfl) (by kernel_rfl) (by kernel_rfl) (fun _ _ _ h => h) (Or.inl ⟨by kernel_rfl, fun w' hSw => ?_⟩) hS ?_
        · go_simp
          all_goals first | rfl | (simp [*]; done)
        simp only [Act.put, List.setIfInBounds_toArray, List.set_cons_zero, List.set_cons_succ]
        refine wpAnyH_take (i := 15) (oi := ⟨some 65, _, _, _, _, _⟩) (v := (.pointer (some ⟨b, q * 2 + 1, none⟩))) rfl (by kernel_rfl) (by kernel_rfl) (by kernel_rfl) (fun _ _ _ h => h) (Or.inl ⟨by kernel_rfl, fun w' hSw => ?_⟩) hS ?_
        · go_simp
          all_goals first | rfl | (simp [*]; done)
        simp only [Act.put, List.setIfInBounds_toArray, List.set_cons_zero, List.set_cons_succ]
        refine wpAnyH_take (i := 16) (oi := ⟨some 66, _, _, _, _, _⟩) (v := (.string de)) rfl (by kernel_rfl) (by kernel_rfl) (by kernel_rfl) (fun _ _ _ h => h) (Or.inl ⟨by kernel_rfl, fun w' hSw => ?_⟩) hS ?_
        · have kf0 := World.grownBy.cell hSw F1.out (by simp)
          go_simp
          all_goals first | rfl | (simp [*]; done)
        simp only [Act.put, List.setIfInBounds_toArray, List.set_cons_zero, List.set_cons_succ]
        refine wpAnyH_take (i := 17) (oi := ⟨some 67, _, _, _, _, _⟩) (v := (.slice (some ⟨g, 0, none⟩) M.length cp)) rfl (by kernel_rfl) (by kernel_rfl) (by kernel_rfl) (fun _ _ _ h => h) (Or.inl ⟨by kernel_rfl, fun w' hSw => ?_⟩) hS ?_
        · go_simp
          all_goals first | rfl | (simp [*]; done)
        simp only [Act.put, List.setIfInBounds_toArray, List.set_cons_zero, List.set_cons_succ]
        refine wpAnyH_take (i := 18) (oi := ⟨some 68, _, _, _, _, _⟩) (v := (.int .i64 (k : Int))) rfl (by kernel_rfl) (by kernel_rfl) (by kernel_rfl) (fun _ _ _ h => h) (Or.inl ⟨by kernel_rfl, fun w' hSw => ?_⟩) hS ?_
        · go_simp
          all_goals first | rfl | (simp [*]; done)
        simp only [Act.put, List.setIfInBounds_toArray, List.set_cons_zero, List.set_cons_succ]
        refine wpAnyH_take (i := 19) (oi := ⟨some 69, _, _, _, _, _⟩) (v := (.pointer (some ⟨g, k * 5, none⟩))) rfl (by kernel_rfl) (by kernel_rfl) (by kernel_rfl) (fun _ _ _ h => h) (Or.inl ⟨by kernel_rfl, fun w' hSw => ?_⟩) hS ?_
        · go_simp
          all_goals first | rfl | (simp [*]; done)
        simp only [Act.put, List.setIfInBounds_toArray, List.set_cons_zero, List.set_cons_succ]
        refine wpAnyH_take (i := 20) (oi := ⟨some 70, _, _, _, _, _⟩) (v := (.pointer (some ⟨g, k * 5 + 3, none⟩))) rfl (by kernel_rfl) (by kernel_rfl) (by kernel_rfl) (fun _ _ _ h => h) (Or.inl ⟨by kernel_rfl, fun w' hSw => ?_⟩) hS ?_
        · go_simp
          all_goals first | rfl | (simp [*]; done)
        simp only [Act.put, List.setIfInBounds_toArray, List.set_cons_zero, List.set_cons_succ]
        refine wpAnyH_take (i := 21) (oi := ⟨some 71, _, _, _, _, _⟩) (v := (.string de)) rfl (by kernel_rfl) (by kernel_rfl) (by kernel_rfl) (fun _ _ _ h => h) (Or.inl ⟨by kernel_rfl, fun w' hSw => ?_⟩) hS ?_
        · have kf0 := World.grownBy.cell hSw D3.out (by simp)
          go_simp
          all_goals first | rfl | (simp [*]; done)
        simp only [Act.put, List.setIfInBounds_toArray, List.set_cons_zero, List.set_cons_succ]
        refine wpAnyH_take (i := 22) (oi := ⟨some 72, _, _, _, _, _⟩) (v := (.bool false)) rfl (by kernel_rfl) (by kernel_rfl) (by kernel_rfl) (fun _ _ _ h => h) (Or.inl ⟨by kernel_rfl, fun w' hSw => ?_⟩) hS ?_
        · go_simp
          all_goals first | rfl | (simp [*]; done)
        simp only [Act.put, List.setIfInBounds_toArray, List.set_cons_zero, List.set_cons_succ]
        refine wpAnyH_take (i := 23) (oi := ⟨some 73, _, _, _, _, _⟩) (v := (.bool false)) rfl (by kernel_rfl) (by kernel_rfl) (by kernel_rfl) (fun _ _ _ h => h) (Or.inl ⟨by kernel_rfl, fun w' hSw => ?_⟩) hS ?_
        · go_simp
          all_goals first | rfl | (simp [*]; done)
        simp only [Act.put, List.setIfInBounds_toArray, List.set_cons_zero, List.set_cons_succ]
        refine wpAnyH_done (by kernel_rfl) ?_ _
        have HG2 := Lib.hid (grown_trans HG.out hS)
        clear hS
        go_wp2
        go_roundw
        case rel => exact ⟨k + 1, by omega, by go_num, by rw [HVY.out]; go_num, HG2⟩
        case measure => simp [intOf]; omega
      · have hyes : (M[k].ten.toList == tn.toList) = false := by simpa using hyes
        have HVN := Lib.hid (show (viewL (M.take (k + 1)) tn).length = q from by rw [viewL_no M tn k hlt hyes, HQ.out])
        clear d0 d2 d3 d4 t1
        go_wp2
        go_roundw
        case rel => exact ⟨k + 1, by omega, by go_num, by rw [HVN.out], HG⟩
        case measure => simp [intOf]; omega
    · obtain rfl : k = M.length := by omega
      obtain rfl : q = ps.length := by have := HQ.out; rw [List.take_length, HPS.out] at this; exact this.symm
      have HG6 := Lib.hid (grown_trans HG5.out HG.out)
      have HE6 := Lib.hid (HE5.out.kept HG.out (by simp))
      have HI := Lib.hid (iaddm_any wr (HT.out.grown HG6.out) (HP.out.grown HG6.out) a (HU.out.grown HG6.out) M (some ⟨g, 0, none⟩) cp g HE6.out.ents (by omega) HZ.out ⟨#[115, 111, 109, 101, 111, 110, 101]⟩ ⟨#[112, 108, 97, 110]⟩ ⟨#[]⟩ (by decide) (by decide) (by decide))
      have hqq : ((ps.length : Int) == ps.length) = true := by simp
      go_wp2_with fail
      refine HI.out.mono ?_
      rintro e w7 ⟨hr, hg7⟩
      have HG7 := Lib.hid (grown_trans HG6.out hg7)
      clear hg7 HI
      rcases hr with ⟨hA, gx, M1, hM1, rfl, hb, -⟩ | ⟨hno, rfl⟩
      case inr =>
        clear hno
        go_wp2
        go_ret
        exact ⟨rfl, HG7.out⟩
      have HB1 := Lib.hid (show EB 1001 M1 from by rw [hM1]; exact HB.out.add (by omega) (by have := hA.2.1; omega) (ten := ⟨#[115, 111, 109, 101, 111, 110, 101]⟩) (wha := ⟨#[112, 108, 97, 110]⟩) (det := ⟨#[]⟩) (by decide) (by decide) (by decide))
      have HL1 := Lib.hid (show M1.length ≤ 201 from by rw [hM1, List.length_append]; simp; omega)
      have HV1 := Lib.hid (iview_any w7 gx M1 (some ⟨gx, 0, none⟩) M1.length hb.ents (HB1.out.small HL1.out) tn)
      have hv1 : viewL M1 tn = ps := by
        rw [hM1, viewL_app, HPS.out]
        have : viewL [addE M ⟨#[115, 111, 109, 101, 111, 110, 101]⟩ ⟨#[112, 108, 97, 110]⟩ ⟨#[]⟩] tn = [] := by
          have h := HTS.out.2
          rw [Bool.beq_comm] at h
          simp only [viewL, addE, List.filter_cons, h, List.filter_nil]
          rfl
        rw [this, List.append_nil]
      rw [hv1] at HV1
      have hso : (tn.toList == (⟨#[115, 111, 109, 101, 111, 110, 101]⟩ : ByteArray).toList) = false := HTS.out.2
      have hso2 : (tn.toList == [115, 111, 109, 101, 111, 110, 101]) = false := by
        have h : (⟨#[115, 111, 109, 101, 111, 110, 101]⟩ : ByteArray).toList = [115, 111, 109, 101, 111, 110, 101] := by rw [ByteArray.toList_eq]
        rw [h] at hso
        exact hso
      clear hA hM1 hb hv1
      go_wp2_with fail
      refine HV1.out.mono ?_
      rintro e w8 ⟨v, rfl, hrow, hg8⟩
      obtain ⟨vc, c3, rfl, -⟩ := hrow.srow
      have HG8 := Lib.hid (grown_trans HG7.out hg8)
      clear hrow hg8 HV1
      go_wp2
      go_ret
      exact ⟨rfl, HG8.out⟩
end Go.Proofs.YtdelijobaebfnaaDoor
