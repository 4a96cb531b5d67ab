/- FnExactAuditWrite, walked. -/
import Derived.Test.YtfdhopkjblbkmaaDoorAP
namespace Go.Proofs.YtfdhopkjblbkmaaDoor
open Go.RowKit

set_option maxRecDepth 100000 in
set_option maxHeartbeats 16000000 in
theorem exactAuditWrite_walk (w : World) (hT : Tabs w) (hP : Pow w) (a : Addr) (hU : UnfC w a) (es : List AE) (ao : Option Addr) (cap : Nat) (hl : ELies w 0 ao es) (hn : es.length ≤ 9223372036854775807) (hz : ESz es) :
    Calls Tryd.prog 5 #[.slice ao es.length cap] w fun e w' => e = .returned (.bool true) ∧ w.grownBy w' none := by
  have HL := Lib.hid hl
  have HT := Lib.hid hT
  have HP := Lib.hid hP
  have HU := Lib.hid hU
  have HSZ := Lib.hid (szEntries_any w es ao cap hl hn hz w (grown_refl _ _) 1048576 (by omega))
  clear hl hz hT hP hU
  go_enter Tryd.func5, Tryd.ntmps5
  go_wp2_with fail
  refine HSZ.out.mono ?_
  rintro e w1 ⟨r, rfl, hr, hg⟩
  have HG1 := Lib.hid hg
  clear hg HSZ
  rcases hr with ⟨rfl, -⟩ | ⟨hr0, hr⟩
  · go_wp2
    go_ret
    exact ⟨rfl, HG1.out⟩
  have hn1 : es.length ≤ 1048576 := by omega
  have hr1 : ¬ r < 0 := by omega
  have HEZ := Lib.hid (show EZ es from fun e he => by
    obtain ⟨j, hj, rfl⟩ := List.mem_iff_getElem.1 he
    have := bulkE_at es j hj
    unfold eB at this
    exact ⟨by omega, by omega, by omega, by omega⟩)
  have HN1 := Lib.hid hn1
  have HTO := Lib.hid (fun (W : World) (hW : w.grownBy W none) => toEntries_any w 0 es ao cap HL.out hn1 W hW)
  obtain ⟨T, hTT⟩ : ∃ T : ByteArray, (AuditP es ∧ T = textS es es.length) ∨ (¬ AuditP es ∧ T = ⟨#[]⟩) := by
    by_cases h : AuditP es
    · exact ⟨_, .inl ⟨h, rfl⟩⟩
    · exact ⟨_, .inr ⟨h, rfl⟩⟩
  have HBO := Lib.hid (fun (e : Ending) (h : (AuditP es ∧ e = .returned (.string (textS es es.length))) ∨ (¬ AuditP es ∧ e = .returned (.string ⟨#[]⟩))) => show e = .returned (.string T) from by
    rcases h with ⟨h1, rfl⟩ | ⟨h1, rfl⟩
    · rcases hTT with ⟨-, h⟩ | ⟨h, -⟩
      · rw [h]
      · exact absurd h1 h
    · rcases hTT with ⟨h, -⟩ | ⟨-, h⟩
      · exact absurd h h1
      · rw [h])
  have HSV := Lib.hid (fun (W : World) (g : Nat) (hb : Blk W g 37 (entsV es)) => (swriteA_any W es (some ⟨g, 0, none⟩) es.length g hb.ents hn1 (Nat.le_refl _) HEZ.out).mono (R' := fun e w' => e = .returned (.string T) ∧ W.grownBy w' none) (fun e w' q => ⟨HBO.out e q.1, q.2⟩))
  have HIV := Lib.hid (fun (W : World) (g : Nat) (hb : Blk W g 37 (entsV es)) (hW : w.grownBy W none) => (iwriteA_any W (HT.out.grown hW) (HP.out.grown hW) a (HU.out.grown hW) es (some ⟨g, 0, none⟩) es.length g hb.ents hn1 HEZ.out).mono (R' := fun e w' => e = .returned (.string T) ∧ W.grownBy w' none) (fun e w' q => ⟨HBO.out e q.1, q.2⟩))
  clear hTT
  clear hr hn1
  -- the document's answer
  go_wp2_with fail
  refine (HTO.out w1 HG1.out).mono ?_
  rintro e w2 ⟨rfl, hb2, hg2⟩
  have HG2 := Lib.hid (grown_trans HG1.out hg2)
  have HV0 := Lib.hid (HSV.out w2 w1.heap.size hb2)
  clear hb2 hg2
  go_wp2_with fail
  refine HV0.out.mono ?_
  rintro e w3 ⟨rfl, hg3⟩
  have HG3 := Lib.hid (grown_trans HG2.out hg3)
  clear hg3 HV0
  -- the argument
  go_wp2_with fail
  refine (HTO.out w3 HG3.out).mono ?_
  rintro e w4 ⟨rfl, hb4, hg4⟩
  have HG4 := Lib.hid (grown_trans HG3.out hg4)
  obtain ⟨gx, hgx⟩ : ∃ x, w3.heap.size = x := ⟨_, rfl⟩
  rw [hgx] at hb4 ⊢
  have HB4 := Lib.hid hb4
  have HV1 := Lib.hid (HIV.out w4 gx hb4 HG4.out)
  clear hb4 hg4 hgx
  -- the program's answer
  go_wp2_with fail
  refine HV1.out.mono ?_
  rintro e w5 ⟨rfl, hg5⟩
  have HG5 := Lib.hid (grown_trans HG4.out hg5)
  have HB5 := Lib.hid (HB4.out.kept hg5 (by simp))
  clear hg5 HV1
  -- the argument is as it was
  go_wp2_with fail
  refine (HTO.out w5 HG5.out).mono ?_
  rintro e w6 ⟨rfl, hb6, hg6⟩
  have HG6 := Lib.hid (grown_trans HG5.out hg6)
  have HB6 := Lib.hid (HB5.out.kept hg6 (by simp))
  have HV2 := Lib.hid (eqEntries_any w6 gx w5.heap.size es (some ⟨gx, 0, none⟩) (some ⟨w5.heap.size, 0, none⟩) es.length es.length HB6.out.ents hb6.ents HN1.out w6 (grown_refl _ _))
  clear hb6 hg6
  go_wp2_with fail
  refine HV2.out.mono ?_
  rintro e w7 ⟨rfl, hg7⟩
  have HG7 := Lib.hid (grown_trans HG6.out hg7)
  clear hg7 HV2
  go_wp2
  go_ret
  exact ⟨rfl, HG7.out⟩
end Go.Proofs.YtfdhopkjblbkmaaDoor
