import Derived.Test.YtnpgdjckhkmiiaaDoorQ5
namespace Go.Proofs.YtnpgdjckhkmiiaaDoor
open Go.RowKit

theorem digits_le (u : Nat) : Lib.nDigits u ≤ u + 1 := by
  induction u using Nat.strongRecOn with
  | _ u ih =>
    by_cases h : u < 10
    · rw [Lib.nDigits, dif_pos h]; omega
    · rw [Lib.nDigits, dif_neg h]
      have := ih (u / 10) (by omega)
      omega
theorem decS_le (n : Nat) : (decS n).size ≤ n + 1 := by
  have : (decS n).size = (Lib.decDigits n).length := rfl
  rw [this, Lib.decDigits_length]
  exact digits_le n
theorem enc_len (ss : List ByteArray) : (encI ss).length ≤ 2 * (ss.length + sizes ss) := by
  induction ss with
  | nil => simp [encI]
  | cons s r ih =>
    have h := decS_le s.size
    rw [show encI (s :: r) = (bI (decS s.size) ++ 58 :: bI s) ++ encI r from by simp [encI], show sizes (s :: r) = s.size + sizes r from by simp [sizes]]
    simp only [List.length_append, List.length_cons, bI_len]
    omega

set_option maxHeartbeats 1000000 in
theorem exactList_walk (w : World) (hw : Tabs w) (hp : Pow w) (ao : Option Addr) (cap : Nat) (ss : List ByteArray) (hl : Lies w ao ss) (hn : ss.length ≤ 9223372036854775807) (hs : ∀ j, (ss.getD j ByteArray.empty).size ≤ 9223372036854775807) :
    Calls Tryd.prog 8 #[.slice ao ss.length cap] w fun e w' => e = .returned (.bool true) ∧ w.grownBy w' none := by
  have HW := Lib.hid hw
  have HP := Lib.hid hp
  have HL := Lib.hid hl
  have HZ := Lib.hid (sz_walk w ao cap ss hl hn hs)
  clear hw hp hl hs
  go_enter Tryd.func8, Tryd.ntmps8
  go_wp2_with fail
  refine HZ.out.mono ?_
  rintro e w0 ⟨r, rfl, hr, rfl⟩
  clear HZ
  by_cases hr0 : r < 0
  · clear hr
    go_wp2
    go_ret
    exact ⟨rfl, grown_refl _ _⟩
  have hr0' : 0 ≤ r := by omega
  have htot := hr hr0'
  have hn' : ss.length ≤ 1048576 := by omega
  have hel := enc_len ss
  have hel' : (encI ss).length ≤ 4194304 := by omega
  have hnn : ss.length ≤ 4194304 := by omega
  obtain ⟨R, hR⟩ : ∃ R, R = strI (hexL (sha (encI ss))) := ⟨_, rfl⟩
  have HT1 := Lib.hid (to_walk w0 ao cap ss HL.out hn')
  have HRR := Lib.hid hR
  clear hr htot hel hr0 hR
  go_wp2_with fail
  refine HT1.out.mono ?_
  rintro e w1 ⟨rfl, HC1, HG1⟩
  have HS := Lib.hid (specList_walk w1 ss w0.heap.size ss.length (some ⟨w0.heap.size, 0, none⟩) (fun _ => rfl) HC1.out hel' hnn)
  rw [← HRR.out] at HS
  clear HT1 HC1
  go_wp2_with fail
  refine HS.out.mono ?_
  rintro e w2 ⟨rfl, hg2⟩
  have HG2 := Lib.hid (grown_trans HG1.out hg2)
  have HT2 := Lib.hid (to_walk w2 ao cap ss (HL.out.kept HG2.out) hn')
  clear hg2 HS HG1
  go_wp2_with fail
  refine HT2.out.mono ?_
  rintro e w3 ⟨rfl, HC3, hg3⟩
  have HG3 := Lib.hid (grown_trans HG2.out hg3.out)
  have HI := Lib.hid (HashList_any w3 (HW.out.grown HG3.out) (HP.out.grown HG3.out) ss w2.heap.size ss.length (some ⟨w2.heap.size, 0, none⟩) (fun _ => rfl) HC3.out hel' hnn)
  rw [← HRR.out] at HI
  clear HT2 hg3 HG2
  go_wp2_with fail
  refine HI.out.mono ?_
  rintro e w4 ⟨rfl, hg4⟩
  have HG4 := Lib.hid (grown_trans HG3.out hg4)
  have HC4 := Lib.hid (fun j hj => hg4.cell (HC3.out j hj) (by simp))
  have HT5 := Lib.hid (to_walk w4 ao cap ss (HL.out.kept HG4.out) hn')
  clear HI hg4 HG3 HC3
  go_wp2_with fail
  refine HT5.out.mono ?_
  rintro e w5 ⟨rfl, HC5, hg5⟩
  have HG5 := Lib.hid (grown_trans HG4.out hg5.out)
  have HE := Lib.hid (eq_walk w5 ss hn' w2.heap.size w4.heap.size ss.length ss.length (fun j hj => hg5.out.cell (HC4.out j hj) (by simp)) HC5.out)
  clear HT5 hg5 HG4 HC4 HC5
  go_wp2_with fail
  refine HE.out.mono ?_
  rintro e w6 ⟨rfl, hg6⟩
  have HG6 := Lib.hid (grown_trans HG5.out hg6)
  clear hg6 HE HG5
  go_wp2
  go_ret
  exact ⟨rfl, HG6.out⟩

end Go.Proofs.YtnpgdjckhkmiiaaDoor
