/- The document's next one: the least that one needs among those that are left. -/
import Derived.Test.YtklkfphpoheanaaDoorS4
namespace Go.Proofs.YtklkfphpoheanaaDoor
open Go.RowKit

/-- the least y with (of, y) in E and y not in D; -1 if there is none -/
def NextE (E : List (Int × Int)) (of : Int) (D : List Int) (r : Int) : Prop :=
  (r = -1 ∧ ∀ e ∈ E, e.1 = of → e.2 ∈ D) ∨ (0 ≤ r ∧ (of, r) ∈ E ∧ ¬ r ∈ D ∧ ∀ e ∈ E, e.1 = of → ¬ e.2 ∈ D → r ≤ e.2)
theorem NextE.ge {E : List (Int × Int)} {of : Int} {D : List Int} {r : Int} (h : NextE E of D r) : -1 ≤ r := by
  rcases h with ⟨rfl, _⟩ | ⟨h, _⟩ <;> omega
theorem NextE.pass {E : List (Int × Int)} {of : Int} {D : List Int} {r : Int} {k : Nat} (hk : k < E.length) (h : NextE (E.take k) of D r) (hx : (E.getD k (0, 0)).1 = of → ¬ (E.getD k (0, 0)).2 ∈ D → 0 ≤ r ∧ r ≤ (E.getD k (0, 0)).2) : NextE (E.take (k + 1)) of D r := by
  rcases h with ⟨rfl, h⟩ | ⟨h0, h1, h2, h3⟩
  · refine .inl ⟨rfl, fun e he he1 => ?_⟩
    rcases take_mem hk he with he | rfl
    · exact h e he he1
    · exact Classical.byContradiction fun hn => by have := (hx he1 hn).1; omega
  · refine .inr ⟨h0, List.take_subset_take_left _ (by omega) h1, h2, fun e he he1 he2 => ?_⟩
    rcases take_mem hk he with he | rfl
    · exact h3 e he he1 he2
    · exact (hx he1 he2).2
theorem NextE.take {E : List (Int × Int)} {of : Int} {D : List Int} {r : Int} {k : Nat} (hk : k < E.length) (h : NextE (E.take k) of D r) (h1 : (E.getD k (0, 0)).1 = of) (h2 : ¬ (E.getD k (0, 0)).2 ∈ D) (h0 : 0 ≤ (E.getD k (0, 0)).2) (hx : r < 0 ∨ (E.getD k (0, 0)).2 < r) : NextE (E.take (k + 1)) of D (E.getD k (0, 0)).2 := by
  refine .inr ⟨h0, ?_, h2, fun e he he1 he2 => ?_⟩
  · rw [List.take_succ_eq_append_getElem hk, List.mem_append]
    refine .inr ?_
    have e1 : E[k] = E.getD k (0, 0) := by simp [hk]
    rw [List.mem_singleton, e1, ← h1]
  · rcases take_mem hk he with he | rfl
    · rcases h with ⟨rfl, h⟩ | ⟨_, _, _, h3⟩
      · exact absurd (h e he he1) he2
      · have := h3 e he he1 he2
        omega
    · exact Int.le_refl _

set_option maxRecDepth 100000 in
set_option maxHeartbeats 1000000 in
theorem l5next_any (w : World) (n : Nat) (ao : Option Addr) (cap : Nat) (E : List (Int × Int)) (hE : NLies w ao E) (hl : E.length ≤ 1048576) (hin : ∀ e ∈ E, In16 n e) (of : Int) (X : List Int) (ta : Option Addr) (gs cp : Nat) (hta : 0 < X.length → ta = some ⟨gs, 0, none⟩) (hcc : ∀ j, j < X.length → w.cell? ⟨gs, j, none⟩ = some (.int .i64 (X.getD j 0))) (hX : X.length ≤ 1048576) :
    Calls Tryd.prog 29 #[.slice ao E.length cap, .int .i64 of, .slice ta X.length cp] w fun e w' => ∃ r : Int, e = .returned (.int .i64 r) ∧ NextE E of X r ∧ w' = w := by
  have HE := Lib.hid hE
  have HTA := Lib.hid hta
  have HCC := Lib.hid hcc
  have HIN := Lib.hid hin
  clear hE hta hcc hin
  go_enter Tryd.func29, Tryd.ntmps29
  go_wp2
  go_loop [7, 8] (fun b i => ∃ (k : Nat) (r : Int), k ≤ E.length ∧ i = .int .i64 k ∧ b = .int .i64 r ∧ NextE (E.take k) of X r) (fun _ i => E.length - (intOf i).toNat)
  case atStart => exact ⟨0, -1, Nat.zero_le _, rfl, rfl, .inl ⟨rfl, fun e he => by simp at he⟩⟩
  case round =>
    obtain ⟨k, r, hk, rfl, rfl, hnx⟩ := hrel
    have HNX := Lib.hid hnx
    clear hnx
    by_cases hlt : k < E.length
    · rcases HE.out with h00 | ⟨ab, o, rfl, hc⟩
      · omega
      obtain ⟨f, hf⟩ : ∃ f, f = (E.getD k (0, 0)).1 := ⟨_, rfl⟩
      obtain ⟨g, hg⟩ : ∃ g, g = (E.getD k (0, 0)).2 := ⟨_, rfl⟩
      have d0 := (hc k hlt).1
      have d1 := (hc k hlt).2
      rw [← hf, Nat.mul_comm] at d0
      rw [← hg, Nat.mul_comm] at d1
      have HG0 := Lib.hid (show 0 ≤ g from by have := HIN.out _ (mem_getD E k hlt); unfold In16 at this; rw [hg]; omega)
      have HF := Lib.hid hf
      have HGG := Lib.hid hg
      have hkI : (k : Int) < E.length := by omega
      clear hf hg hc
      by_cases c1 : f = of
      · have c1b : (f == of) = true := by simp [c1]
        have C1 := Lib.hid c1
        clear c1
        cases c2 : decide (g ∈ X)
        · have C2 := Lib.hid c2
          clear c2
          by_cases c3 : r < 0
          · have HT := Lib.hid (HNX.out.take hlt (by rw [← HF.out]; exact C1.out) (by rw [← HGG.out]; exact of_decide_eq_false C2.out) (by rw [← HGG.out]; exact HG0.out) (.inl c3))
            go_wp2_with (first | (go_at_call 28; refine (l5has_any _ X _ gs cp (by exact HTA.out) (by exact HCC.out) hX g).mono ?_; rw [C2.out]; rintro e w' ⟨rfl, hw⟩; have hw := hw.symm; subst hw))
            exact ⟨⟨k + 1, g, by omega, by go_num, rfl, by have := HT.out; rw [← HGG.out] at this; exact this⟩, by simp [intOf]; omega⟩
          · have c3' : 0 ≤ r := by omega
            by_cases c4 : g < r
            · have HT := Lib.hid (HNX.out.take hlt (by rw [← HF.out]; exact C1.out) (by rw [← HGG.out]; exact of_decide_eq_false C2.out) (by rw [← HGG.out]; exact HG0.out) (.inr (by rw [← HGG.out]; exact c4)))
              clear c3
              go_wp2_with (first | (go_at_call 28; refine (l5has_any _ X _ gs cp (by exact HTA.out) (by exact HCC.out) hX g).mono ?_; rw [C2.out]; rintro e w' ⟨rfl, hw⟩; have hw := hw.symm; subst hw))
              exact ⟨⟨k + 1, g, by omega, by go_num, rfl, by have := HT.out; rw [← HGG.out] at this; exact this⟩, by simp [intOf]; omega⟩
            · have HT := Lib.hid (HNX.out.pass hlt (fun _ _ => ⟨c3', by rw [← HGG.out]; omega⟩))
              have c4' : r ≤ g := by omega
              clear c3 c4
              go_wp2_with (first | (go_at_call 28; refine (l5has_any _ X _ gs cp (by exact HTA.out) (by exact HCC.out) hX g).mono ?_; rw [C2.out]; rintro e w' ⟨rfl, hw⟩; have hw := hw.symm; subst hw))
              exact ⟨⟨k + 1, r, by omega, by go_num, rfl, HT.out⟩, by simp [intOf]; omega⟩
        · have C2 := Lib.hid c2
          have HT := Lib.hid (HNX.out.pass hlt (fun _ h => absurd (by rw [← HGG.out]; exact of_decide_eq_true C2.out) h))
          clear c2
          go_wp2_with (first | (go_at_call 28; refine (l5has_any _ X _ gs cp (by exact HTA.out) (by exact HCC.out) hX g).mono ?_; rw [C2.out]; rintro e w' ⟨rfl, hw⟩; have hw := hw.symm; subst hw))
          exact ⟨⟨k + 1, r, by omega, by go_num, rfl, HT.out⟩, by simp [intOf]; omega⟩
      · have c1b : (f == of) = false := by simp [c1]
        have HT := Lib.hid (HNX.out.pass hlt (fun h _ => absurd (by rw [HF.out]; exact h) c1))
        clear c1
        go_wp2
        exact ⟨⟨k + 1, r, by omega, by go_num, rfl, HT.out⟩, by simp [intOf]; omega⟩
    · obtain rfl : k = E.length := by omega
      have HYES := Lib.hid (show NextE E of X r from by have := HNX.out; rwa [List.take_length] at this)
      go_wp2
      go_ret
      exact ⟨r, rfl, HYES.out, rfl⟩

end Go.Proofs.YtklkfphpoheanaaDoor
