/- FnAuditAdd, walked. -/
import Derived.Test.YtdelijobaebfnaaDoorDC
import Derived.Test.YtdelijobaebfnaaDoorDD
import Derived.Test.YtdelijobaebfnaaDoorAT
import Derived.Test.YtdelijobaebfnaaDoorAJ
namespace Go.Proofs.YtdelijobaebfnaaDoor
open Go.RowKit

theorem Says.is_bool {e : Ending} {p : Prop} (h : Says e p) {t : Bool} (ht : t = true ↔ p) : e = .returned (.bool t) := by
  obtain ⟨b, rfl, hb⟩ := h
  obtain rfl : b = t := Bool.eq_iff_iff.2 (hb.trans ht.symm)
  rfl
theorem EC.last {w : World} {g : Nat} {M : List AE} {E : AE} (h : EC w g (M ++ [E])) : Ent w g (M.length * 5) E := by
  rcases h.ents with h0 | ⟨b, o, e, -, h1⟩
  · simp at h0
  · injection e with e1
    injection e1 with e2 e3
    have := h1 M.length (by simp)
    rw [List.getElem_concat_length rfl] at this
    rw [e2]
    rwa [← e3, Nat.zero_add] at this
theorem iaddm_any (w : World) (hT : Tabs w) (hP : Pow w) (a : Addr) (hU : UnfC w a) (es : List AE) (ao : Option Addr) (cap base : Nat) (hl : ELies w base ao es) (hn : es.length ≤ 1048576) (hz : EZ es) (ten wha det : ByteArray) (h1 : ten.size ≤ 1048576) (h2 : wha.size ≤ 1048576) (h3 : det.size ≤ 1048576) :
    Calls Tryd.prog 16 #[.slice ao es.length cap, .string ten, .string wha, .string det] w fun e w' =>
      ((AddP es ten wha det ∧ ∃ (g : Nat) (M1 : List AE), M1 = es ++ [addE es ten wha det] ∧ e = .returned (.tuple #[.slice (some ⟨g, 0, none⟩) M1.length M1.length, .bool true]) ∧ EC w' g M1 ∧ w.heap.size ≤ g) ∨
       (¬ AddP es ten wha det ∧ e = .returned (.tuple #[.slice none 0 0, .bool false]))) ∧ w.grownBy w' none := by
  refine (iadding_any w hT hP a hU es ao cap base hl hn hz ten wha det h1 h2 h3).mono ?_
  rintro e w' ⟨⟨hA, g, rfl, hb, hlo⟩ | h, hg⟩
  · exact ⟨.inl ⟨hA, g, _, rfl, by simp, EC.of hb, hlo⟩, hg⟩
  · exact ⟨.inr h, hg⟩
theorem saddm_any (w : World) (es : List AE) (g cp : Nat) (hcp : es.length ≤ cp) (hb : EC w g es) (hn : es.length ≤ 1048576) (hz : EZ es) (ten wha det : ByteArray) (h1 : ten.size ≤ 1048576) (h2 : wha.size ≤ 1048576) (h3 : det.size ≤ 1048576) :
    Calls Tryd.prog 17 #[.slice (some ⟨g, 0, none⟩) es.length cp, .string ten, .string wha, .string det] w fun e w' =>
      ((AddP es ten wha det ∧ ∃ (g' cn : Nat) (M1 : List AE), M1 = es ++ [addE es ten wha det] ∧ e = .returned (.tuple #[.slice (some ⟨g', 0, none⟩) M1.length cn, .bool true]) ∧ EC w' g' M1) ∨
       (¬ AddP es ten wha det ∧ ∃ an, e = .returned (.tuple #[.slice an 0 0, .bool false]))) ∧ w.grownBy w' none := by
  refine (saddg_any w es g cp hcp hb hn hz ten wha det h1 h2 h3).mono ?_
  rintro e w' ⟨⟨hA, g, cn, rfl, -, -, he⟩ | h, hg⟩
  · exact ⟨.inl ⟨hA, g, cn, _, rfl, by simp, he⟩, hg⟩
  · exact ⟨.inr h, hg⟩

set_option maxRecDepth 100000 in
set_option maxHeartbeats 32000000 in
theorem auditAdd_walk (w : World) (hT : Tabs w) (hP : Pow w) (a : Addr) (hU : UnfC w a) (ao : Option Addr) (n cap : Nat) (hcap : n ≤ cap) (hc : Came w ao n) :
    Calls Tryd.prog 4 #[.slice ao n cap] w fun e w' => e = .returned (.bool true) ∧ w.grownBy w' none := by
  by_cases hn : (n : Int) > 1048576
  · clear hc hT hP hU
    go_enter Tryd.func4, Tryd.ntmps4
    go_wp2
    go_ret
    exact ⟨rfl, grown_refl _ _⟩
  have hn' : (n : Int) ≤ 1048576 := by omega
  have HT := Lib.hid hT
  have HP := Lib.hid hP
  have HU := Lib.hid hU
  have HD := Lib.hid (drawAA_any w ao n cap (by omega) hcap hc)
  clear hT hP hU hc
  go_enter Tryd.func4, Tryd.ntmps4
  go_wp2_with fail
  refine HD.out.mono ?_
  rintro e w1 ⟨⟨M, g, cp, ten, wha, det, rfl, hM, how, heb, h1, h2, h3⟩, hg1⟩
  have HE1 := Lib.hid how.ec.2.2
  have HCP := Lib.hid (show M.length ≤ cp ∧ M.length ≤ 200 from ⟨how.ec.2.1, hM⟩)
  have HZ := Lib.hid (heb.ez (by omega))
  have HS := Lib.hid (And.intro h1 (And.intro h2 h3))
  have HG1 := Lib.hid hg1
  have HI := Lib.hid (iaddm_any w1 (HT.out.grown hg1) (HP.out.grown hg1) a (HU.out.grown hg1) M (some ⟨g, 0, none⟩) cp g HE1.out.ents (by omega) HZ.out ten wha det (by omega) (by omega) (by omega))
  have HLI := Lib.hid (show (M.length : Int) ≤ 200 from by omega)
  obtain ⟨t, ht⟩ : ∃ t : Bool, Hid (t = true ↔ AuditP M) := by
    by_cases h : AuditP M
    · exact ⟨true, Lib.hid (by simp [h])⟩
    · exact ⟨false, Lib.hid (by simp [h])⟩
  have htt : (t != t) = false := by simp
  clear how heb h1 h2 h3 hg1 hM HD
  go_wp2_with fail
  refine HI.out.mono ?_
  rintro e w2 ⟨hr, hg2⟩
  have HG2 := Lib.hid (grown_trans HG1.out hg2)
  have HE2 := Lib.hid (HE1.out.kept hg2 (by simp))
  have HSA := Lib.hid (saddm_any w2 M g cp HCP.out.1 HE2.out (by have := HCP.out.2; omega) HZ.out ten wha det (by have := HS.out.1; omega) (by have := HS.out.2.1; omega) (by have := HS.out.2.2; omega))
  clear hg2 HI
  rcases hr with ⟨hA, gx, M1, hM1, rfl, hb, -⟩ | ⟨hno, rfl⟩
  case inr =>
    go_wp2_with fail
    refine HSA.out.mono ?_
    rintro e w3 ⟨hs, hg3⟩
    rcases hs with ⟨h, -⟩ | ⟨-, an, rfl⟩
    · exact absurd h hno
    have HG3 := Lib.hid (grown_trans HG2.out hg3)
    have HE3 := Lib.hid (HE2.out.kept hg3 (by simp))
    have HW := Lib.hid (show Calls Tryd.prog 18 #[.slice none 0 0, .slice an 0 0] w3 (fun e w' => e = .returned (.bool true) ∧ w3.grownBy w' none) from wsAudit_any w3 0 0 [] none an 0 0 (.inl rfl) (.inl rfl) (by simp))
    clear hg3 hno HSA
    go_wp2_with fail
    refine HW.out.mono ?_
    rintro e w4 ⟨rfl, hg4⟩
    have HG4 := Lib.hid (grown_trans HG3.out hg4)
    have HE4 := Lib.hid (HE3.out.kept hg4 (by simp))
    clear hg4 HW
    have HIO := Lib.hid (iaudit_any w4 (HT.out.grown HG4.out) (HP.out.grown HG4.out) a (HU.out.grown HG4.out) M (some ⟨g, 0, none⟩) cp g HE4.out.ents (by have := HCP.out.2; omega) HZ.out)
    go_wp2_with fail
    refine HIO.out.mono ?_
    rintro e w4a ⟨hs, hga⟩
    obtain rfl := hs.is_bool ht.out
    have HGA := Lib.hid (grown_trans HG4.out hga)
    have HEA := Lib.hid (HE4.out.kept hga (by simp))
    have HSO := Lib.hid (saudit_any w4a M (some ⟨g, 0, none⟩) cp g HEA.out.ents (by have := HCP.out.2; omega) HCP.out.1 HZ.out)
    clear hs hga HIO
    go_wp2_with fail
    refine HSO.out.mono ?_
    rintro e w4b ⟨hs, hgb⟩
    obtain rfl := hs.is_bool ht.out
    have HGB := Lib.hid (grown_trans HGA.out hgb)
    have HEB := Lib.hid (HEA.out.kept hgb (by simp))
    clear hs hgb HSO
    go_wp2
    go_ret
    exact ⟨rfl, HGB.out⟩
  have hlen : (M ++ [addE M ten wha det]).length = M.length + 1 := by simp
  have HOK1 := Lib.hid (show AuditP M1 from by rw [hM1]; exact add_audit hA)
  have HZ1 := Lib.hid (show EZ M1 from by rw [hM1]; exact add_EZ HZ.out hA.2.2)
  have HX2 := Lib.hid (show EC w2 gx M1 from hb)
  have HL1 := Lib.hid (show M1.length = M.length + 1 from by rw [hM1]; exact hlen)
  have HM1 := Lib.hid hM1
  obtain rfl : t = true := ht.out.2 hA.1
  have HAP := Lib.hid hA
  clear hA hb hlen hM1 ht
  go_wp2_with fail
  refine HSA.out.mono ?_
  rintro e w3 ⟨hs, hg3⟩
  rcases hs with ⟨-, gs, cn, M2, hM2, rfl, hes⟩ | ⟨h, -⟩
  case inr => exact absurd HAP.out h
  obtain rfl : M1 = M2 := by rw [hM2, HM1.out]
  have HG3 := Lib.hid (grown_trans HG2.out hg3)
  have HE3 := Lib.hid (HE2.out.kept hg3 (by simp))
  have HX3 := Lib.hid (HX2.out.kept hg3 (by simp))
  have HW := Lib.hid (wsAudit_any w3 gx gs M1 (some ⟨gx, 0, none⟩) (some ⟨gs, 0, none⟩) M1.length cn HX3.out.ents hes.ents (by rw [HL1.out]; have := HCP.out.2; omega))
  clear hg3 hes hM2 HSA
  go_wp2_with fail
  refine HW.out.mono ?_
  rintro e w4 ⟨rfl, hg4⟩
  have HG4 := Lib.hid (grown_trans HG3.out hg4)
  have HE4 := Lib.hid (HE3.out.kept hg4 (by simp))
  have HX4 := Lib.hid (HX3.out.kept hg4 (by simp))
  clear hg4 HW
  have HIO := Lib.hid (iaudit_any w4 (HT.out.grown HG4.out) (HP.out.grown HG4.out) a (HU.out.grown HG4.out) M (some ⟨g, 0, none⟩) cp g HE4.out.ents (by have := HCP.out.2; omega) HZ.out)
  go_wp2_with fail
  refine HIO.out.mono ?_
  rintro e w4a ⟨hs, hga⟩
  obtain rfl := hs.is_bool (t := true) (by simp [HAP.out.1])
  have HGA := Lib.hid (grown_trans HG4.out hga)
  have HGA4 := Lib.hid hga
  have HEA := Lib.hid (HE4.out.kept hga (by simp))
  have HSO := Lib.hid (saudit_any w4a M (some ⟨g, 0, none⟩) cp g HEA.out.ents (by have := HCP.out.2; omega) HCP.out.1 HZ.out)
  clear hs hga HIO
  go_wp2_with fail
  refine HSO.out.mono ?_
  rintro e w4b ⟨hs, hgb⟩
  obtain rfl := hs.is_bool (t := true) (by simp [HAP.out.1])
  have HGB := Lib.hid (grown_trans HGA.out hgb)
  have HEB := Lib.hid (HEA.out.kept hgb (by simp))
  have HX5 := Lib.hid ((HX4.out.kept HGA4.out (by simp)).kept hgb (by simp))
  have HW2 := Lib.hid (show Calls Tryd.prog 18 #[.slice (some ⟨gx, 0, none⟩) M.length M1.length, .slice (some ⟨g, 0, none⟩) M.length cp] w4b (fun e w' => e = .returned (.bool true) ∧ w4b.grownBy w' none) from wsAudit_any w4b gx g M (some ⟨gx, 0, none⟩) (some ⟨g, 0, none⟩) M1.length cp (by have := (HX5.out.take M.length).ents; rwa [HM1.out, List.take_left' rfl] at this) HEB.out.ents (by have := HCP.out.2; omega))
  clear hs hgb HSO
  have q1 : ((M1.length : Int) == (M.length : Int) + 1) = true := by rw [beq_iff_eq, HL1.out]; omega
  have q2 : (M.length : Int) ≤ M1.length := by have := HL1.out; omega
  have q3 : (M.length : Int) < M1.length := by have := HL1.out; omega
  have q4 : (M.length : Int) ≤ 200 := HLI.out
  go_wp2_with fail
  refine HW2.out.mono ?_
  rintro e w5 ⟨rfl, hg5⟩
  have HG5 := Lib.hid (grown_trans HGB.out hg5)
  have HX6 := Lib.hid (HX5.out.kept hg5 (by simp))
  have HIO := Lib.hid (iaudit_any w5 (HT.out.grown HG5.out) (HP.out.grown HG5.out) a (HU.out.grown HG5.out) M1 (some ⟨gx, 0, none⟩) M1.length gx HX6.out.ents (by rw [HL1.out]; have := HCP.out.2; omega) HZ1.out)
  clear hg5 HW2
  go_wp2_with fail
  refine HIO.out.mono ?_
  rintro e w6 ⟨hs, hg6⟩
  obtain rfl := hs.is_bool (t := true) (by simp [HOK1.out])
  have HG6 := Lib.hid (grown_trans HG5.out hg6)
  have HX7 := Lib.hid (HX6.out.kept hg6 (by simp))
  obtain ⟨x0, x1, x2, x3, x4⟩ := EC.last (show EC w6 gx (M ++ [addE M ten wha det]) from by rw [← HM1.out]; exact HX7.out)
  simp only [addE] at x1 x2 x3
  have te : (ten.toList == ten.toList) = true := by simp
  have tw : (wha.toList == wha.toList) = true := by simp
  have td : (det.toList == det.toList) = true := by simp
  clear hs hg6 HIO x0 x4
  go_wp2
  go_ret
  exact ⟨rfl, HG6.out⟩
end Go.Proofs.YtdelijobaebfnaaDoor
