/- FnExactGraphCycle's walk. -/
import Derived.Test.YtklkfphpoheanaaDoorCB
import Derived.Test.YtklkfphpoheanaaDoorCC
import Derived.Test.YtklkfphpoheanaaDoorT3
import Derived.Test.YtklkfphpoheanaaDoorT4
namespace Go.Proofs.YtklkfphpoheanaaDoor
open Go.RowKit

set_option maxRecDepth 100000 in
set_option maxHeartbeats 1000000 in
theorem exactCycle_walk (w : World) (hT : Tabs w) (n : Int) (hn1 : -9223372036854775808 ≤ n) (hn2 : n ≤ 9223372036854775807) (ao : Option Addr) (cap : Nat) (E : List (Int × Int)) (hE : NLies w ao E) (hl : E.length ≤ 9223372036854775807) :
    Calls Tryd.prog 5 #[.int .i64 n, .slice ao E.length cap] w fun e w' => e = .returned (.bool true) ∧ w.grownBy w' none := by
  have HE := Lib.hid hE
  have HT := Lib.hid hT
  clear hT
  have HZ := Lib.hid (szN_any w ao E.length cap hl)
  clear hE
  go_enter Tryd.func5, Tryd.ntmps5
  go_wp2_with fail
  refine HZ.out.mono ?_
  rintro e w0 ⟨r, rfl, hr, hw⟩
  have hw := hw.symm
  subst hw
  clear HZ
  by_cases hr0 : r < 0
  · clear hr
    go_wp2
    go_ret
    exact ⟨rfl, grown_refl _ _⟩
  have hr0' : 0 ≤ r := by omega
  have hlen := hr hr0'
  have HT1 := Lib.hid (toNeedS_any w ao cap E HE.out hlen)
  clear hr hr0
  go_wp2_with fail
  refine HT1.out.mono ?_
  rintro e w1 ⟨rfl, HB1, HG1⟩
  have HS := Lib.hid (specCycle_any w1 n hn1 hn2 (some ⟨w.heap.size, 0, none⟩) E.length E (NLies.of_blk HB1.out) hlen)
  clear HT1 HB1
  go_wp2_with fail
  refine HS.out.mono ?_
  rintro e w2 ⟨v0, L, rfl, hrow0, hos, hg2⟩
  have HOS := Lib.hid hos
  have hL16 := hos.len
  have hLm : L.length ≤ 1048576 := by omega
  clear hos
  have HR0 := Lib.hid hrow0
  have HG2 := Lib.hid (grown_trans HG1.out hg2)
  have hsw := HG2.out.size
  have HT2 := Lib.hid (toNeedS_any w2 ao cap E (HE.out.kept HG2.out) hlen)
  have HLT0 := Lib.hid (show ∀ q, v0.ownBlock = some q → q < w2.heap.size from fun q hq => (hrow0.lt q hq).2)
  clear hrow0 hg2 HS HG1
  go_wp2_with fail
  refine HT2.out.mono ?_
  rintro e w3 ⟨rfl, HB3, hg3⟩
  have HG3 := Lib.hid (grown_trans HG2.out hg3.out)
  have HR03 := Lib.hid (HR0.out.kept hg3.out (by simp))
  have hs3 := HB3.out.lt
  have HI := Lib.hid (GraphCycle_any w3 (HT.out.grown HG3.out) n (some ⟨w2.heap.size, 0, none⟩) E.length E (NLies.of_blk HB3.out) hlen)
  clear hg3 HT2 HR0 HG2
  go_wp2_with fail
  refine HI.out.mono ?_
  rintro e w4 ⟨v1, L', rfl, hrow1, hos, hg4⟩
  obtain rfl := HOS.out.one hos
  clear hos
  have HR1 := Lib.hid hrow1
  have HG4 := Lib.hid (grown_trans HG3.out hg4)
  have HR04 := Lib.hid (HR03.out.kept hg4 (by simp))
  have HB4 := Lib.hid (HB3.out.kept hg4 (by simp))
  have HLT1 := Lib.hid (show ∀ q, v1.ownBlock = some q → w2.heap.size < q from fun q hq => by have := (hrow1.lt q hq).1; omega)
  have HQ := Lib.hid (eqIntS_same w4 L hLm _ _ v1 v0 hrow1 HR04.out)
  clear hrow1 hg4 HI HR03 HB3 HG3
  go_wp2_with fail
  refine HQ.out.mono ?_
  rintro e w5 ⟨rfl, hg5⟩
  have HG5 := Lib.hid (grown_trans HG4.out hg5)
  have HR15 := Lib.hid (HR1.out.kept hg5 (by simp))
  have HR05 := Lib.hid (HR04.out.kept hg5 (by simp))
  have HB5 := Lib.hid (HB4.out.kept hg5 (by simp))
  have HT5 := Lib.hid (toNeedS_any w5 ao cap E (HE.out.kept HG5.out) hlen)
  clear hg5 HQ HR1 HR04 HB4 HG4
  go_wp2_with fail
  refine HT5.out.mono ?_
  rintro e w6 ⟨rfl, HB6, hg6⟩
  have HG6 := Lib.hid (grown_trans HG5.out hg6.out)
  have HR16 := Lib.hid (HR15.out.kept hg6.out (by simp))
  have HR06 := Lib.hid (HR05.out.kept hg6.out (by simp))
  have HBX6 := Lib.hid (HB5.out.kept hg6.out (by simp))
  have HQN := Lib.hid (eqNeedS_same w6 E hlen w2.heap.size w5.heap.size E.length E.length 32 32 HBX6.out HB6.out)
  clear hg6 HT5 HR15 HR05 HB5 HG5
  go_wp2_with fail
  refine HQN.out.mono ?_
  rintro e w7 ⟨rfl, hg7⟩
  have HG7 := Lib.hid (grown_trans HG6.out hg7)
  have HR17 := Lib.hid (HR16.out.kept hg7 (by simp))
  have HR07 := Lib.hid (HR06.out.kept hg7 (by simp))
  have HBX7 := Lib.hid (HBX6.out.kept hg7 (by simp))
  have HMK := Lib.hid (markNeedS_any w7 E.length w2.heap.size E.length 32 (flat E) hlen (flat_len E) HBX7.out)
  clear hg7 HQN HR16 HR06 HBX6 HB6 HG6
  go_wp2_with fail
  refine HMK.out.mono ?_
  rintro e w8 ⟨rfl, hg8⟩
  have HG8 := Lib.hid (show w.grownBy w8 none from grown_into HG7.out hg8 hsw)
  have HR18 := Lib.hid (HR17.out.kept hg8 (fun q hq e => by cases e; have := HLT1.out _ hq; omega))
  have HR08 := Lib.hid (HR07.out.kept hg8 (fun q hq e => by cases e; have := HLT0.out _ hq; omega))
  have HQ8 := Lib.hid (eqIntS_same w8 L hLm _ _ v1 v0 HR18.out HR08.out)
  clear hg8 HMK HR17 HR07 HBX7 HG7
  go_wp2_with fail
  refine HQ8.out.mono ?_
  rintro e w9 ⟨rfl, hg9⟩
  have HG9 := Lib.hid (grown_trans HG8.out hg9)
  have HR19 := Lib.hid (HR18.out.kept hg9 (by simp))
  have HR09 := Lib.hid (HR08.out.kept hg9 (by simp))
  have HM9 := Lib.hid (markIntS_any w9 L hLm _ v1 HR19.out)
  clear hg9 HQ8 HR18 HR08 HG8
  go_wp2_with fail
  refine HM9.out.mono ?_
  rintro e wa ⟨rfl, hrowa, hga⟩
  have HRA := Lib.hid hrowa
  have HGA := Lib.hid (show w.grownBy wa none from grown_own HG9.out hga (fun q hq => by have := HLT1.out _ hq; omega))
  have HR0A := Lib.hid (HR09.out.kept hga (fun q hq e => by have h1 := HLT1.out _ e.symm; have h2 := HLT0.out _ hq; omega))
  have HH := Lib.hid (heldIntS_any wa L.length hLm _ v1 hrowa)
  clear hga hrowa HM9 HR19 HR09 HG9
  go_wp2_with fail
  refine HH.out.mono ?_
  rintro e wb ⟨rfl, hw⟩
  have hw := hw.symm
  subst hw
  have hq1 : (((L.length : Int) + 1) != ((L.length : Int) + 1)) = false := by simp
  have HTB := Lib.hid (toNeedS_any wa ao cap E (HE.out.kept HGA.out) hlen)
  clear HH
  go_wp2_with fail
  refine HTB.out.mono ?_
  rintro e wc ⟨rfl, HBC, hgc⟩
  have HGC := Lib.hid (grown_trans HGA.out hgc.out)
  have HRC := Lib.hid (HRA.out.kept hgc.out (by simp))
  have HR0C := Lib.hid (HR0A.out.kept hgc.out (by simp))
  have HI2 := Lib.hid (GraphCycle_any wc (HT.out.grown HGC.out) n (some ⟨wa.heap.size, 0, none⟩) E.length E (NLies.of_blk HBC.out) hlen)
  clear hgc HTB HRA HR0A HGA
  go_wp2_with fail
  refine HI2.out.mono ?_
  rintro e wd ⟨v2, L', rfl, hrow2, hos, hgd⟩
  obtain rfl := HOS.out.one hos
  clear hos
  have HGD := Lib.hid (grown_trans HGC.out hgd)
  have HRD := Lib.hid (HRC.out.kept hgd (by simp))
  have HR0D := Lib.hid (HR0C.out.kept hgd (by simp))
  have HQD := Lib.hid (eqIntS_same wd L hLm _ _ v2 v0 hrow2 HR0D.out)
  clear hgd hrow2 HI2 HRC HR0C HGC HBC
  go_wp2_with fail
  refine HQD.out.mono ?_
  rintro e we ⟨rfl, hge⟩
  have HGE := Lib.hid (grown_trans HGD.out hge)
  have HHE := Lib.hid (heldIntS_any we L.length hLm _ v1 (HRD.out.kept hge (by simp)))
  clear hge HQD HRD HR0D HGD
  go_wp2_with fail
  refine HHE.out.mono ?_
  rintro e wf ⟨rfl, hw⟩
  have hw := hw.symm
  subst hw
  clear HHE
  go_wp2
  go_ret
  exact ⟨rfl, HGE.out⟩

end Go.Proofs.YtklkfphpoheanaaDoor
