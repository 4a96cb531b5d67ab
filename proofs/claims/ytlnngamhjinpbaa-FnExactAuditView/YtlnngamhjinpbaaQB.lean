/- FnExactAuditView, walked. -/
import Derived.Test.YtlnngamhjinpbaaQA
namespace Go.Proofs.Ytlnngamhjinpbaa
open Go.RowKit

theorem Blk.bkN {w : World} {g : Nat} {t : TypeId} {us : List AE} (h : Blk w g t (entsV us)) : BkN w g t (us.length * 5) := ⟨_, entsV_len us, h⟩

set_option maxRecDepth 100000 in
set_option maxHeartbeats 8000000 in
theorem exactAuditView_walk (w : World) (us : List AE) (ao : Option Addr) (cap : Nat) (hl : ELies w 0 ao us) (hn : us.length ≤ 9223372036854775807) (hz : ESz us) (tn : ByteArray) :
    Calls Try.prog 5 #[.slice ao us.length cap, .string tn] w fun e w' => e = .returned (.bool true) ∧ w.grownBy w' none := by
  have HL := Lib.hid hl
  have HSZ := Lib.hid (szEntries_any w us ao cap hl hn hz w (grown_refl _ _) 1048576 (by omega))
  clear hl hz
  by_cases hbig : (1048576 : Int) < tn.size
  · go_enter Try.func5, Try.ntmps5
    go_wp2
    go_ret
    exact ⟨rfl, grown_refl _ _⟩
  go_enter Try.func5, Try.ntmps5
  go_wp2_with fail
  refine HSZ.out.mono ?_
  rintro e w1 ⟨r, rfl, hr, hg⟩
  have HG1 := Lib.hid hg
  clear hg HSZ
  rcases hr with ⟨rfl, -⟩ | ⟨hr0, hr⟩
  · go_wp2
    go_ret
    exact ⟨rfl, HG1.out⟩
  have HN := Lib.hid (show us.length + bulkE us ≤ 1048576 from by omega)
  have hn1 : us.length ≤ 1048576 := by omega
  have hr1 : ¬ r < 0 := by omega
  have HTO := Lib.hid (fun (W : World) (hW : w.grownBy W none) => toEntries_any w 0 us ao cap HL.out hn1 W hW)
  have HIV := Lib.hid (fun (W : World) (g : Nat) (hb : Blk W g 66 (entsV us)) => iview_any W g us (some ⟨g, 0, none⟩) us.length hb.ents HN.out tn)
  have HSV := Lib.hid (fun (W : World) (g : Nat) (hb : Blk W g 66 (entsV us)) => sview_any W g us (some ⟨g, 0, none⟩) us.length hb.ents HN.out tn)
  have HPL := Lib.hid (show (viewL us tn).length ≤ 1048577 from by have := viewL_len us tn us.length; rw [List.take_length] at this; omega)
  have HEQ := Lib.hid (fun (W : World) (b1 b2 : Nat) (v1 v2 : Value) (h1 : RowT W b1 v1 (viewL us tn).length (seenV (viewL us tn))) (h2 : RowT W b2 v2 (viewL us tn).length (seenV (viewL us tn))) => eqSeen_any W b1 b2 (viewL us tn) v1 v2 h1 h2 HPL.out)
  generalize hps : viewL us tn = ps at HIV HSV HEQ HPL
  clear hps hr hbig
  -- the document's answer
  go_wp2_with fail
  refine (HTO.out w1 HG1.out).mono ?_
  rintro e w2 ⟨rfl, hb2, hg2⟩
  have HG2 := Lib.hid (grown_trans HG1.out hg2)
  have HV0 := Lib.hid (HSV.out w2 w1.heap.size hb2)
  clear hb2 hg2
  go_wp2_with fail
  refine HV0.out.mono ?_
  rintro e w3 ⟨v0, rfl, hr0', hg3⟩
  have HR0 := Lib.hid hr0'
  have HQ0 := Lib.hid (show ∀ q, v0.ownBlock = some q → q < w3.heap.size from fun q hq => (hr0'.lt q hq).2)
  have HG3 := Lib.hid (grown_trans HG2.out hg3)
  clear hr0' hg3 HV0
  -- the argument
  go_wp2_with fail
  refine (HTO.out w3 HG3.out).mono ?_
  rintro e w4 ⟨rfl, hb4, hg4⟩
  have HG4 := Lib.hid (grown_trans HG3.out hg4)
  have HB4 := Lib.hid hb4
  have HR0b := Lib.hid (HR0.out.kept hg4 (by simp))
  have HX := Lib.hid (show w3.heap.size < w4.heap.size from hb4.lt)
  have HV1 := Lib.hid (HIV.out w4 w3.heap.size hb4)
  have HGX := Lib.hid (show w.heap.size ≤ w3.heap.size from HG3.out.size)
  generalize w3.heap.size = gx at HQ0 HB4 HX HV1 HGX ⊢
  clear hb4 hg4 HR0
  -- the program's answer
  go_wp2_with fail
  refine HV1.out.mono ?_
  rintro e w5 ⟨v1, rfl, hr1', hg5⟩
  have HR1 := Lib.hid hr1'
  have HQ1 := Lib.hid (show ∀ q, v1.ownBlock = some q → w4.heap.size ≤ q from fun q hq => (hr1'.lt q hq).1)
  have HG5 := Lib.hid (grown_trans HG4.out hg5)
  have HB5 := Lib.hid (HB4.out.kept hg5 (by simp))
  have HR0c := Lib.hid (HR0b.out.kept hg5 (by simp))
  clear hr1' hg5 HV1 HB4 HR0b
  go_wp2_with fail
  refine (HEQ.out w5 _ _ v1 v0 HR1.out HR0c.out).mono ?_
  rintro e w6 ⟨rfl, hg6⟩
  have HG6 := Lib.hid (grown_trans HG5.out hg6)
  have HB6 := Lib.hid (HB5.out.kept hg6 (by simp))
  have HR0d := Lib.hid (HR0c.out.kept hg6 (by simp))
  have HR1d := Lib.hid (HR1.out.kept hg6 (by simp))
  clear hg6 HB5 HR0c HR1
  -- the argument is as it was
  go_wp2_with fail
  refine (HTO.out w6 HG6.out).mono ?_
  rintro e w7 ⟨rfl, hb7, hg7⟩
  have HG7 := Lib.hid (grown_trans HG6.out hg7)
  have HB7 := Lib.hid (HB6.out.kept hg7 (by simp))
  have HR0e := Lib.hid (HR0d.out.kept hg7 (by simp))
  have HR1e := Lib.hid (HR1d.out.kept hg7 (by simp))
  have HE7 := Lib.hid (eqEntries_any w7 gx w6.heap.size us (some ⟨gx, 0, none⟩) (some ⟨w6.heap.size, 0, none⟩) us.length us.length HB7.out.ents hb7.ents hn1 w7 (grown_refl _ _))
  clear hb7 hg7 HB6 HR0d HR1d
  go_wp2_with fail
  refine HE7.out.mono ?_
  rintro e w8 ⟨rfl, hg8⟩
  have HG8 := Lib.hid (grown_trans HG7.out hg8)
  have HB8 := Lib.hid (HB7.out.kept hg8 (by simp))
  have HR0f := Lib.hid (HR0e.out.kept hg8 (by simp))
  have HR1f := Lib.hid (HR1e.out.kept hg8 (by simp))
  clear hg8 HB7 HR0e HR1e HE7
  -- the argument is marked
  have HM8 := Lib.hid (markEntries_any w8 gx us.length HB8.out.bkN hn1 1 (by omega) (by omega))
  have hne0 : ∀ q, v0.ownBlock = some q → some q ≠ some gx := fun q hq e => by have h1 := HQ0.out q hq; cases e; omega
  have hne1 : ∀ q, v1.ownBlock = some q → some q ≠ some gx := fun q hq e => by have h1 := HQ1.out q hq; have h2 := HX.out; cases e; omega
  go_wp2_with fail
  refine HM8.out.mono ?_
  rintro e w9 ⟨rfl, hg9⟩
  have HG9 := Lib.hid (grown_into HG8.out hg9 HGX.out)
  have HR0g := Lib.hid (HR0f.out.kept hg9 hne0)
  have HR1g := Lib.hid (HR1f.out.kept hg9 hne1)
  clear hg9 HB8 HR0f HR1f HM8 hne0 hne1
  obtain ⟨K, hK⟩ : ∃ K, K = 1 + us.length * 5 := ⟨_, rfl⟩
  rw [← hK]
  have hKp : ¬ (K : Int) < 0 := by omega
  clear hK
  go_wp2_with fail
  refine (HEQ.out w9 _ _ v1 v0 HR1g.out HR0g.out).mono ?_
  rintro e w10 ⟨rfl, hg10⟩
  have HG10 := Lib.hid (grown_trans HG9.out hg10)
  have HR0h := Lib.hid (HR0g.out.kept hg10 (by simp))
  have HR1h := Lib.hid (HR1g.out.kept hg10 (by simp))
  clear hg10 HR0g HR1g
  -- the answer is marked
  have HM10 := Lib.hid (markSeen_any w10 _ v1 ps.length _ HR1h.out HPL.out 1 (by omega) (by omega))
  go_wp2_with fail
  refine HM10.out.mono ?_
  rintro e w11 ⟨rfl, hr11, hg11⟩
  have HG11 := Lib.hid (grown_own HG10.out hg11 (fun q hq => by have h1 := HQ1.out q hq; have h2 := HG4.out.size; omega))
  have HR0i := Lib.hid (HR0h.out.kept hg11 (fun q hq e => by have h1 := HQ0.out q hq; have h2 := HQ1.out q e.symm; have h3 := HX.out; omega))
  have HR1i := Lib.hid hr11
  clear hr11 hg11 HR0h HR1h HM10
  obtain ⟨M, hM⟩ : ∃ M, M = 1 + ps.length * 2 := ⟨_, rfl⟩
  rw [← hM]
  have hMp : ¬ (M : Int) < 0 := by omega
  have HH11 := Lib.hid (fun (W : World) (hW : RowT W w4.heap.size v1 ps.length (strs (marks 1 (ps.length * 2)))) => heldSeen_any W _ v1 ps.length 1 hW HPL.out (by omega) (by omega))
  rw [← hM] at HH11
  clear hM
  go_wp2_with fail
  refine (HH11.out w11 HR1i.out).mono ?_
  rintro e w12 ⟨rfl, hg12⟩
  have HG12 := Lib.hid (grown_trans HG11.out hg12)
  have HR0j := Lib.hid (HR0i.out.kept hg12 (by simp))
  have HR1j := Lib.hid (HR1i.out.kept hg12 (by simp))
  clear hg12 HR0i HR1i
  -- behind another call
  go_wp2_with fail
  refine (HTO.out w12 HG12.out).mono ?_
  rintro e w13 ⟨rfl, hb13, hg13⟩
  have HG13 := Lib.hid (grown_trans HG12.out hg13)
  have HR0k := Lib.hid (HR0j.out.kept hg13 (by simp))
  have HR1k := Lib.hid (HR1j.out.kept hg13 (by simp))
  have HV13 := Lib.hid (HIV.out w13 w12.heap.size hb13)
  clear hb13 hg13 HR0j HR1j
  go_wp2_with fail
  refine HV13.out.mono ?_
  rintro e w14 ⟨v2, rfl, hr14, hg14⟩
  have HG14 := Lib.hid (grown_trans HG13.out hg14)
  have HR0l := Lib.hid (HR0k.out.kept hg14 (by simp))
  have HR1l := Lib.hid (HR1k.out.kept hg14 (by simp))
  have HR2 := Lib.hid hr14
  clear hr14 hg14 HR0k HR1k HV13
  go_wp2_with fail
  refine (HEQ.out w14 _ _ v2 v0 HR2.out HR0l.out).mono ?_
  rintro e w15 ⟨rfl, hg15⟩
  have HG15 := Lib.hid (grown_trans HG14.out hg15)
  have HR1m := Lib.hid (HR1l.out.kept hg15 (by simp))
  clear hg15 HR0l HR1l
  go_wp2_with fail
  refine (HH11.out w15 HR1m.out).mono ?_
  rintro e w16 ⟨rfl, hg16⟩
  have HG16 := Lib.hid (grown_trans HG15.out hg16)
  clear hg16 HR1m
  go_wp2
  go_ret
  exact ⟨rfl, HG16.out⟩
end Go.Proofs.Ytlnngamhjinpbaa
