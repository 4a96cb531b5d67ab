import Derived.Test.YtnpgdjckhkmiiaaDoorV1
import Derived.Test.YtnpgdjckhkmiiaaDoorV2
namespace Go.Proofs.YtnpgdjckhkmiiaaDoor
open Go.RowKit

theorem Came.kept' {w w' : World} {ao : Option Addr} {n : Nat} (h : Came w ao n) (hg : w.grownBy w' none) : Came w' ao n := by
  rcases h with h | ⟨ab, o, rfl, hc⟩
  · exact .inl h
  · refine .inr ⟨ab, o, rfl, fun j hj => ?_⟩
    obtain ⟨x, h0, h1, hx⟩ := hc j hj
    exact ⟨x, h0, h1, hg.cell hx (by simp)⟩
theorem enc4 (ss : List ByteArray) (hs : ∀ s ∈ ss, s ∈ five) (hl : ss.length ≤ 4) : (encI ss).length ≤ 4194304 := by
  obtain ⟨l, l1, l2, rfl⟩ := idx_of ss hs
  rw [enc_nat l l1, toI_len]
  have : ∀ l : List Nat, (encL l).length ≤ 7 * l.length := fun l => by
    induction l with
    | nil => simp [encL]
    | cons i r ih =>
      rw [show encL (i :: r) = pieceN i ++ encL r from by simp [encL], List.length_append, List.length_cons]
      have : (pieceN i).length ≤ 7 := by
        match i with
        | 0 => decide
        | 1 => decide
        | 2 => decide
        | 3 => decide
        | 4 => decide
        | n + 5 => simp [pieceN]
      omega
  have := this l
  omega

set_option maxRecDepth 100000 in
set_option maxHeartbeats 1000000 in
theorem hashList_walk (w : World) (hw : Tabs w) (hp : Pow w) (ao : Option Addr) (n cap : Nat) (hcap : n ≤ cap) (hc : Came w ao n) (bo : Option Addr) (m dap : Nat) (hdap : m ≤ dap) (hd : Came w bo m) :
    Calls Tryd.prog 5 #[.slice ao n cap, .slice bo m dap] w fun e w' => e = .returned (.bool true) ∧ w.grownBy w' none := by
  have HW := Lib.hid hw
  have HP := Lib.hid hp
  clear hw hp
  by_cases hn : (n : Int) > 1048576
  · clear hc hd
    go_enter Tryd.func5, Tryd.ntmps5
    go_wp2
    go_ret
    exact ⟨rfl, grown_refl _ _⟩
  have hn' : (n : Int) ≤ 1048576 := by omega
  by_cases hm : (m : Int) > 1048576
  · clear hc hd hn
    go_enter Tryd.func5, Tryd.ntmps5
    go_wp2
    go_ret
    exact ⟨rfl, grown_refl _ _⟩
  have hm' : (m : Int) ≤ 1048576 := by omega
  have HD := Lib.hid (drawList_any w ao n cap (by omega) hcap hc)
  have HC2 := Lib.hid hd
  clear hn hm hc hd
  go_enter Tryd.func5, Tryd.ntmps5
  go_wp2_with fail
  refine HD.out.mono ?_
  rintro e w1 ⟨v, ss, rfl, hrow, hsl, hsf, hg1⟩
  have HG1 := Lib.hid hg1
  have HD2 := Lib.hid (drawList_any w1 bo m dap (by omega) hdap (HC2.out.kept' hg1))
  have HR1 := Lib.hid hrow
  have HSF := Lib.hid hsf
  clear hg1 hrow hsf HD HC2
  go_wp2_with fail
  refine HD2.out.mono ?_
  rintro e w2 ⟨v2, tt, rfl, hrow2, htl, htf, hg2⟩
  obtain ⟨ta, tb, cp, rfl, ht1, h1⟩ := row_open (HR1.out.kept hg2 (by simp))
  obtain ⟨ua, ub, cq, rfl, ht2, h2⟩ := row_open hrow2
  have HG2 := Lib.hid (grown_trans HG1.out hg2)
  have H1 := Lib.hid h1
  have H2 := Lib.hid h2
  have HT1 := Lib.hid ht1
  have HT2 := Lib.hid ht2
  have HTF := Lib.hid htf
  have he1 := enc4 ss HSF.out hsl
  have he2 := enc4 tt htf htl
  have hsl4 : ss.length ≤ 4194304 := by omega
  have htl4 : tt.length ≤ 4194304 := by omega
  obtain ⟨R, hR⟩ : ∃ R, R = strI (hexL (sha (encI ss))) := ⟨_, rfl⟩
  obtain ⟨S, hS⟩ : ∃ S, S = strI (hexL (sha (encI tt))) := ⟨_, rfl⟩
  have HRR := Lib.hid hR
  have HSS := Lib.hid hS
  clear hg2 h1 h2 ht1 ht2 htf hrow2 HG1 HD2 HR1 hR hS
  have HA := Lib.hid (HashList_any w2 (HW.out.grown HG2.out) (HP.out.grown HG2.out) ss tb cp ta HT1.out H1.out he1 hsl4)
  rw [← HRR.out] at HA
  go_wp2_with fail
  refine HA.out.mono ?_
  rintro e w3 ⟨rfl, hg3⟩
  have HG3 := Lib.hid (grown_trans HG2.out hg3)
  have H13 := Lib.hid (fun j hj => hg3.cell (H1.out j hj) (by simp))
  have H23 := Lib.hid (fun j hj => hg3.cell (H2.out j hj) (by simp))
  have HB := Lib.hid (HashList_any w3 (HW.out.grown HG3.out) (HP.out.grown HG3.out) tt ub cq ua HT2.out H23.out he2 htl4)
  rw [← HSS.out] at HB
  clear hg3 HA H1 H2 HG2
  go_wp2_with fail
  refine HB.out.mono ?_
  rintro e w4 ⟨rfl, hg4⟩
  have HG4 := Lib.hid (grown_trans HG3.out hg4)
  have H14 := Lib.hid (fun j hj => hg4.cell (H13.out j hj) (by simp))
  have H24 := Lib.hid (fun j hj => hg4.cell (H23.out j hj) (by simp))
  have HC := Lib.hid (specList_walk w4 ss tb cp ta HT1.out H14.out he1 hsl4)
  rw [← HRR.out] at HC
  clear hg4 HB H13 H23 HG3
  go_wp2_with fail
  refine HC.out.mono ?_
  rintro e w5 ⟨rfl, hg5⟩
  have HG5 := Lib.hid (grown_trans HG4.out hg5)
  have H15 := Lib.hid (fun j hj => hg5.cell (H14.out j hj) (by simp))
  have H25 := Lib.hid (fun j hj => hg5.cell (H24.out j hj) (by simp))
  have HE := Lib.hid (specList_walk w5 tt ub cq ua HT2.out H25.out he2 htl4)
  rw [← HSS.out] at HE
  clear hg5 HC H14 H24 HG4
  go_wp2_with fail
  refine HE.out.mono ?_
  rintro e w6 ⟨rfl, hg6⟩
  have HG6 := Lib.hid (grown_trans HG5.out hg6)
  have H16 := Lib.hid (fun j hj => hg6.cell (H15.out j hj) (by simp))
  have H26 := Lib.hid (fun j hj => hg6.cell (H25.out j hj) (by simp))
  have HF := Lib.hid (ws_walk w6 ss tt hsl htl ta ua tb ub cp cq HT1.out H16.out HT2.out H26.out)
  clear hg6 HE H15 H25 HG5
  go_wp2_with fail
  refine HF.out.mono ?_
  rintro e w7 ⟨⟨b, rfl, hb⟩, hg7⟩
  have HG7 := Lib.hid (grown_trans HG6.out hg7)
  have HFIN : Hid ((R.toList == S.toList) = b) := Lib.hid (by
    by_cases hst : ss = tt
    · have e1 : R = S := by rw [HRR.out, HSS.out, hst]
      rw [e1, hb.2 hst]; simp
    · have e1 : R ≠ S := fun e => hst (lists_apart ss tt HSF.out hsl HTF.out htl (by rw [← HRR.out, ← HSS.out, e]))
      have e2 : b = false := by
        cases b with
        | false => rfl
        | true => exact absurd (hb.1 rfl) hst
      rw [e2]; exact toList_ne e1)
  clear hb hg7 HF HG6
  have hfin := HFIN.out
  cases b
  all_goals
    go_wp2
    go_ret
    exact ⟨by first | rfl | simp [hfin], HG7.out⟩

end Go.Proofs.YtnpgdjckhkmiiaaDoor
