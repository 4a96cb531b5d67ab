/- The document's model of the order. -/
import Derived.Test.YtklkfphpoheanaaDoorO0
import Derived.Test.YtklkfphpoheanaaDoorS2
namespace Go.Proofs.YtklkfphpoheanaaDoor
open Go.RowKit

def FreeE (E : List (Int × Int)) (of : Int) (X : List Int) : Prop := ∀ e ∈ E, e.1 = of → e.2 ∈ X
instance (E : List (Int × Int)) (of : Int) (X : List Int) : Decidable (FreeE E of X) := by unfold FreeE; infer_instance
theorem freeB_E (n : Nat) (hn : n ≤ 16) (E : List (Int × Int)) (h : ∀ e ∈ E, In16 n e) (D : List Int) (k : Nat) (hk : k < n) : freeB (adj E) n D k = (!decide ((k : Int) ∈ D) && decide (FreeE E k D)) := by
  rw [Bool.eq_iff_iff, free_iff]
  simp only [Bool.and_eq_true, Bool.not_eq_true', decide_eq_false_iff_not, decide_eq_true_eq]
  constructor
  · rintro ⟨_, b, c⟩
    refine ⟨b, fun e he hk2 => ?_⟩
    have hi := h e he
    unfold In16 at hi
    obtain ⟨m, hm⟩ := Int.eq_ofNat_of_zero_le hi.2.2.1
    have hm2 : ((k : Int), (m : Int)) ∈ E := by
      have : e = ((k : Int), (m : Int)) := Prod.ext hk2 hm
      rw [← this]; exact he
    rw [hm]
    exact c m (by omega) ((adj_iff n E h k m (by omega)).2 hm2)
  · rintro ⟨b, c⟩
    exact ⟨hk, b, fun j _ hb => c _ ((adj_iff n E h k j (by omega)).1 hb) rfl⟩

set_option maxRecDepth 100000 in
set_option maxHeartbeats 1000000 in
theorem l5free_any (w : World) (ao : Option Addr) (cap : Nat) (E : List (Int × Int)) (hE : NLies w ao E) (hl : E.length ≤ 1048576) (of : Int) (X : List Int) (ta : Option Addr) (gs cp : Nat) (hta : 0 < X.length → ta = some ⟨gs, 0, none⟩) (hcc : ∀ j, j < X.length → w.cell? ⟨gs, j, none⟩ = some (.int .i64 (X.getD j 0))) (hX : X.length ≤ 1048576) :
    Calls Tryd.prog 41 #[.slice ao E.length cap, .int .i64 of, .slice ta X.length cp] w fun e w' => e = .returned (.bool (decide (FreeE E of X))) ∧ w' = w := by
  have HE := Lib.hid hE
  have HTA := Lib.hid hta
  have HCC := Lib.hid hcc
  clear hE hta hcc
  go_enter Tryd.func41, Tryd.ntmps41
  go_wp2
  go_loop [7] (fun i => ∃ k : Nat, k ≤ E.length ∧ i = .int .i64 k ∧ FreeE (E.take k) of X) (fun i => E.length - (intOf i).toNat)
  case atStart => exact ⟨0, Nat.zero_le _, rfl, fun e he => by simp at he⟩
  case round =>
    obtain ⟨k, hk, rfl, hfr⟩ := hrel
    have HFR := Lib.hid hfr
    clear hfr
    by_cases hlt : k < E.length
    · rcases HE.out with h00 | ⟨ab, o, rfl, hc⟩
      · omega
      obtain ⟨f, hf⟩ : ∃ f, f = (E.getD k (0, 0)).1 := ⟨_, rfl⟩
      obtain ⟨g, hg⟩ : ∃ g, g = (E.getD k (0, 0)).2 := ⟨_, rfl⟩
      have d0 := (hc k hlt).1
      have d1 := (hc k hlt).2
      rw [← hf, Nat.mul_comm] at d0
      rw [← hg, Nat.mul_comm] at d1
      have HF := Lib.hid hf
      have HGG := Lib.hid hg
      have hkI : (k : Int) < E.length := by omega
      have HNX := Lib.hid (show (f = of → g ∈ X) → FreeE (E.take (k + 1)) of X from fun h e he he1 => by
        rcases take_mem hlt he with he | rfl
        · exact HFR.out e he he1
        · rw [← HGG.out]; exact h (by rw [HF.out]; exact he1))
      clear hf hg hc
      by_cases c1 : f = of
      · have c1b : (f == of) = true := by simp [c1]
        have C1 := Lib.hid c1
        clear c1
        cases c2 : decide (g ∈ X)
        · have C2 := Lib.hid c2
          have HNO := Lib.hid (show decide (FreeE E of X) = false from decide_eq_false (fun h => by
            have := h _ (mem_getD E k hlt) (by rw [← HF.out]; exact C1.out)
            rw [← HGG.out] at this
            exact absurd this (of_decide_eq_false C2.out)))
          clear c2
          go_wp2_with (first | (go_at_call 28; refine (l5has_any _ X _ gs cp (by exact HTA.out) (by exact HCC.out) hX g).mono ?_; rw [C2.out]; rintro e w' ⟨rfl, hw⟩; have hw := hw.symm; subst hw))
          go_ret
          exact ⟨by rw [HNO.out]; rfl, rfl⟩
        · have C2 := Lib.hid c2
          clear c2
          go_wp2_with (first | (go_at_call 28; refine (l5has_any _ X _ gs cp (by exact HTA.out) (by exact HCC.out) hX g).mono ?_; rw [C2.out]; rintro e w' ⟨rfl, hw⟩; have hw := hw.symm; subst hw))
          exact ⟨⟨k + 1, by omega, by go_num, HNX.out (fun _ => of_decide_eq_true C2.out)⟩, by simp [intOf]; omega⟩
      · have c1b : (f == of) = false := by simp [c1]
        have C1 := Lib.hid c1
        clear c1
        go_wp2
        exact ⟨⟨k + 1, by omega, by go_num, HNX.out (fun h => absurd h C1.out)⟩, by simp [intOf]; omega⟩
    · obtain rfl : k = E.length := by omega
      have HYES := Lib.hid (show decide (FreeE E of X) = true from decide_eq_true (by have := HFR.out; rwa [List.take_length] at this))
      go_wp2
      go_ret
      exact ⟨by rw [HYES.out]; rfl, rfl⟩

end Go.Proofs.YtklkfphpoheanaaDoor
