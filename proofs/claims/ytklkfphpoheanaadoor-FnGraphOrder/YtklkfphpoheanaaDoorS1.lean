/- The document's model: small functions. -/
import Derived.Test.YtklkfphpoheanaaDoorG2
import Derived.Test.YtklkfphpoheanaaDoorR1
namespace Go.Proofs.YtklkfphpoheanaaDoor
open Go.RowKit

theorem mem_of_at {L : List Int} {k : Int} {j : Nat} (hj : j < L.length) (h : L.getD j 0 = k) : k ∈ L := by
  rw [← h, show L.getD j 0 = L[j] from by simp [hj]]; exact List.getElem_mem hj
theorem not_mem_of {L : List Int} {k : Int} (h : ∀ j, j < L.length → L.getD j 0 ≠ k) : ¬ k ∈ L := fun hm => by
  obtain ⟨j, hj, e⟩ := List.mem_iff_getElem.1 hm
  exact h j hj (by simp [hj, e])

set_option maxHeartbeats 1000000 in
theorem l5has_any (w : World) (L : List Int) (ta : Option Addr) (g cp : Nat) (hta : 0 < L.length → ta = some ⟨g, 0, none⟩) (hc : ∀ j, j < L.length → w.cell? ⟨g, j, none⟩ = some (.int .i64 (L.getD j 0))) (hl : L.length ≤ 1048576) (k : Int) :
    Calls Tryd.prog 28 #[.slice ta L.length cp, .int .i64 k] w fun e w' => e = .returned (.bool (decide (k ∈ L))) ∧ w' = w := by
  have HTA := Lib.hid hta
  have HC := Lib.hid hc
  clear hta hc
  go_enter Tryd.func28, Tryd.ntmps28
  go_wp2
  go_loop [5] (fun i => ∃ j : Nat, j ≤ L.length ∧ i = .int .i64 j ∧ ∀ q, q < j → L.getD q 0 ≠ k) (fun i => L.length - (intOf i).toNat)
  case atStart => exact ⟨0, Nat.zero_le _, rfl, fun q hq => absurd hq (Nat.not_lt_zero _)⟩
  case round =>
    obtain ⟨j, hj, rfl, hno⟩ := hrel
    have HNO := Lib.hid hno
    clear hno
    by_cases hlt : j < L.length
    · have e1 := HTA.out (by omega)
      subst e1
      have d0 := HC.out j hlt
      obtain ⟨x, hx⟩ : ∃ x, x = L.getD j 0 := ⟨_, rfl⟩
      rw [← hx] at d0
      have HX := Lib.hid hx
      have hjI : (j : Int) < L.length := by omega
      clear hx
      by_cases hxk : x = k
      · have hb : (x == k) = true := by simp [hxk]
        have HM := Lib.hid (show decide (k ∈ L) = true from by simp; exact mem_of_at hlt (by rw [← HX.out, hxk]))
        clear hxk
        go_wp2
        go_ret
        exact ⟨by rw [HM.out]; rfl, rfl⟩
      · have hb : (x == k) = false := by simp [hxk]
        have HN := Lib.hid hxk
        clear hxk
        go_wp2
        refine ⟨⟨j + 1, by omega, by go_num, fun q hq => ?_⟩, by simp [intOf]; omega⟩
        by_cases hqj : q < j
        · exact HNO.out q hqj
        · obtain rfl : q = j := by omega
          rw [← HX.out]; exact HN.out
    · obtain rfl : j = L.length := by omega
      have HM := Lib.hid (show decide (k ∈ L) = false from by simp; exact not_mem_of HNO.out)
      go_wp2
      go_ret
      exact ⟨by rw [HM.out]; rfl, rfl⟩

def OkG (n : Int) (E : List (Int × Int)) : Prop := 0 ≤ n ∧ n ≤ 16 ∧ ∀ e ∈ E, In16 n e
instance (n : Int) (E : List (Int × Int)) : Decidable (OkG n E) := by unfold OkG In16; infer_instance
set_option maxRecDepth 100000 in
set_option maxHeartbeats 1000000 in
theorem l5ok_any (w : World) (n : Int) (hn1 : -9223372036854775808 ≤ n) (hn2 : n ≤ 9223372036854775807) (ao : Option Addr) (cap : Nat) (E : List (Int × Int)) (hE : NLies w ao E) (hl : E.length ≤ 1048576) :
    Calls Tryd.prog 25 #[.int .i64 n, .slice ao E.length cap] w fun e w' => e = .returned (.bool (decide (OkG n E))) ∧ w' = w := by
  have HE := Lib.hid hE
  clear hE
  by_cases h0 : 0 ≤ n ∧ n ≤ 16
  · have hd : decide (0 ≤ n ∧ n ≤ 16) = true := by simp [h0]
    obtain ⟨h1, h2⟩ := h0
    go_enter Tryd.func25, Tryd.ntmps25
    go_wp2_with (first | (go_at_call 40; refine (in_any _ _ _ _).mono ?_; rintro e w' ⟨rfl, hw⟩; have hw := hw.symm; subst hw))
    go_loop [5] (fun i => ∃ j : Nat, j ≤ E.length ∧ i = .int .i64 j ∧ ∀ e ∈ E.take j, In16 n e) (fun i => E.length - (intOf i).toNat)
    case atStart => exact ⟨0, Nat.zero_le _, rfl, by simp⟩
    case round =>
      obtain ⟨k, hk, rfl, hin⟩ := hrel
      have HIN := Lib.hid hin
      clear hin
      by_cases hlt : k < E.length
      · rcases HE.out with h00 | ⟨ab, o, rfl, hc⟩
        · omega
        obtain ⟨f, hf⟩ : ∃ f, f = (E.getD k (0, 0)).1 := ⟨_, rfl⟩
        obtain ⟨g, hg⟩ : ∃ g, g = (E.getD k (0, 0)).2 := ⟨_, rfl⟩
        have d0 := (hc k hlt).1
        have d1 := (hc k hlt).2
        rw [← hf, Nat.mul_comm] at d0
        rw [← hg, Nat.mul_comm] at d1
        have HF := Lib.hid hf
        have HGG := Lib.hid hg
        have hkI : (k : Int) < E.length := by omega
        clear hf hg hc
        have HNO := Lib.hid (show ¬ In16 n (f, g) → ¬ ∀ e ∈ E, In16 n e from fun hx h => by
          have h1 := h _ (mem_getD E k hlt)
          rw [show E.getD k (0, 0) = (f, g) from by rw [HF.out, HGG.out]] at h1
          exact hx h1)
        by_cases c1 : 0 ≤ f ∧ f ≤ n - 1
        · have c1d : decide (0 ≤ f ∧ f ≤ n - 1) = true := by simp [c1]
          have C1 := Lib.hid c1
          clear c1
          by_cases c2 : 0 ≤ g ∧ g ≤ n - 1
          · have c2d : decide (0 ≤ g ∧ g ≤ n - 1) = true := by simp [c2]
            have C2 := Lib.hid c2
            clear c2
            go_wp2_with (first | (go_at_call 40; refine (in_any _ _ _ _).mono ?_; rintro e w' ⟨rfl, hw⟩; have hw := hw.symm; subst hw))
            refine ⟨⟨k + 1, by omega, by go_num, fun e he => ?_⟩, by simp [intOf]; omega⟩
            rw [List.take_succ_eq_append_getElem hlt] at he
            rcases List.mem_append.1 he with he | he
            · exact HIN.out e he
            · have : e = E.getD k (0, 0) := by simpa [hlt] using he
              have a1 := C1.out
              have a2 := C2.out
              unfold In16
              rw [this, ← HF.out, ← HGG.out]
              omega
          · have c2d : decide (0 ≤ g ∧ g ≤ n - 1) = false := by simpa using c2
            have HF2 := Lib.hid (HNO.out (fun h => c2 (by unfold In16 at h; simp only at h; omega)))
            clear c2
            go_wp2_with (first | (go_at_call 40; refine (in_any _ _ _ _).mono ?_; rintro e w' ⟨rfl, hw⟩; have hw := hw.symm; subst hw))
            go_ret
            exact ⟨by rw [decide_eq_false (fun h : OkG n E => HF2.out h.2.2)]; rfl, rfl⟩
        · have c1d : decide (0 ≤ f ∧ f ≤ n - 1) = false := by simpa using c1
          have HF2 := Lib.hid (HNO.out (fun h => c1 (by unfold In16 at h; simp only at h; omega)))
          clear c1
          go_wp2_with (first | (go_at_call 40; refine (in_any _ _ _ _).mono ?_; rintro e w' ⟨rfl, hw⟩; have hw := hw.symm; subst hw))
          go_ret
          exact ⟨by rw [decide_eq_false (fun h : OkG n E => HF2.out h.2.2)]; rfl, rfl⟩
      · obtain rfl : k = E.length := by omega
        go_wp2
        go_ret
        exact ⟨by rw [decide_eq_true (show OkG n E from ⟨h1, h2, fun e he => HIN.out e (by rw [List.take_length]; exact he)⟩)]; rfl, rfl⟩
  · have hd : decide (0 ≤ n ∧ n ≤ 16) = false := by simpa using h0
    have HH := Lib.hid h0
    clear h0
    go_enter Tryd.func25, Tryd.ntmps25
    go_wp2_with (first | (go_at_call 40; refine (in_any _ _ _ _).mono ?_; rintro e w' ⟨rfl, hw⟩; have hw := hw.symm; subst hw))
    go_ret
    exact ⟨by rw [decide_eq_false (fun h : OkG n E => HH.out ⟨h.1, h.2.1⟩)]; rfl, rfl⟩

end Go.Proofs.YtklkfphpoheanaaDoor
