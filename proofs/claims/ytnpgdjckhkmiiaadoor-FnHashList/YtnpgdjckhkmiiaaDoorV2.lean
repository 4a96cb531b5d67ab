import Derived.Test.YtnpgdjckhkmiiaaDoorQ5
namespace Go.Proofs.YtnpgdjckhkmiiaaDoor
open Go.RowKit

/-- a row of texts, opened -/
theorem row_open {w : World} {base : Nat} {v : Value} {ss : List ByteArray} (h : Row w base v (strs ss)) : ∃ ta tb cp, v = .slice ta ss.length cp ∧ (0 < ss.length → ta = some ⟨tb, 0, none⟩) ∧ (∀ j, j < ss.length → w.cell? ⟨tb, j, none⟩ = some (.string (ss.getD j ByteArray.empty))) := by
  rcases h with ⟨rfl, h0⟩ | ⟨g, cap, rfl, hb, hl, hn, hc, _⟩
  · have : ss = [] := by simpa [strs] using h0
    subst this
    exact ⟨none, 0, 0, rfl, fun h => absurd h (by simp), fun j hj => absurd hj (by simp)⟩
  · have hlS : (strs ss).length = ss.length := by simp [strs]
    rw [hlS] at hc ⊢
    refine ⟨_, g, cap, rfl, fun _ => rfl, fun j hj => ?_⟩
    rw [hc j hj]
    simp [strs, hj]

theorem same_at_end (ss tt : List ByteArray) (hl : ss.length = tt.length) (h : ∀ j, j < ss.length → ss.getD j ByteArray.empty = tt.getD j ByteArray.empty) : ss = tt := by
  apply List.ext_getElem hl
  intro j h1 h2
  have := h j h1
  simpa [h1, h2] using this
theorem toList_ne {r r2 : ByteArray} (h : r ≠ r2) : (r.toList == r2.toList) = false := by
  have hnt : ¬ r.toList = r2.toList := fun e => by
    rw [Go.ByteArray.toList_eq, Go.ByteArray.toList_eq] at e
    exact h (WideShapes.bytes_inj e)
  simp [hnt]

set_option maxHeartbeats 1000000 in
theorem ws_walk (w : World) (ss tt : List ByteArray) (hn : ss.length ≤ 4) (hm : tt.length ≤ 4) (ta ta2 : Option Addr) (g1 g2 c1 c2 : Nat) (ht1 : 0 < ss.length → ta = some ⟨g1, 0, none⟩) (h1 : ∀ j, j < ss.length → w.cell? ⟨g1, j, none⟩ = some (.string (ss.getD j ByteArray.empty))) (ht2 : 0 < tt.length → ta2 = some ⟨g2, 0, none⟩) (h2 : ∀ j, j < tt.length → w.cell? ⟨g2, j, none⟩ = some (.string (tt.getD j ByteArray.empty))) :
    Calls Tryd.prog 18 #[.slice ta ss.length c1, .slice ta2 tt.length c2] w fun e w' => (∃ b, e = .returned (.bool b) ∧ (b = true ↔ ss = tt)) ∧ w.grownBy w' none := by
  have H1 := Lib.hid h1
  have H2 := Lib.hid h2
  have HT1 := Lib.hid ht1
  have HT2 := Lib.hid ht2
  clear h1 h2 ht1 ht2
  by_cases hl : ss.length = tt.length
  · have hlI : ((ss.length : Int) != (tt.length : Int)) = false := by simp [hl]
    have HL := Lib.hid hl
    have hle : ss.length ≤ tt.length := by omega
    clear hl
    go_enter Tryd.func18, Tryd.ntmps18
    go_wp2
    go_loopw [5] (fun i wr => ∃ k : Nat, k ≤ ss.length ∧ i = .int .i64 k ∧ (∀ j, j < k → ss.getD j ByteArray.empty = tt.getD j ByteArray.empty) ∧ w.grownBy wr none) (fun i _ => ss.length - (intOf i).toNat)
    case atStart => exact ⟨0, Nat.zero_le _, rfl, fun j hj => absurd hj (Nat.not_lt_zero _), grown_refl _ _⟩
    case round =>
      obtain ⟨k, hk, rfl, hsame, hg⟩ := hrel
      have HG := Lib.hid hg
      have HSM := Lib.hid hsame
      clear hsame
      by_cases hlt : k < ss.length
      · have hlt2 : k < tt.length := by omega
        have e1 := HT1.out (by omega)
        have e2 := HT2.out (by omega)
        subst e1 e2
        have d1 := hg.cell (H1.out k hlt) (by simp)
        have d2 := hg.cell (H2.out k hlt2) (by simp)
        obtain ⟨s, hs⟩ : ∃ s, s = ss.getD k ByteArray.empty := ⟨_, rfl⟩
        obtain ⟨t, ht⟩ : ∃ t, t = tt.getD k ByteArray.empty := ⟨_, rfl⟩
        rw [← hs] at d1
        rw [← ht] at d2
        have HS := Lib.hid hs
        have HT := Lib.hid ht
        have hkI : (k : Int) < ss.length := by omega
        have hkI2 : (k : Int) < tt.length := by omega
        clear hg hs ht
        by_cases hst : s = t
        · subst hst
          go_wp2
          go_quiet (fail)
          go_wp2
          go_roundw
          case rel =>
            refine ⟨k + 1, by omega, by go_num, fun j hj => ?_, grown_drewN HG.out _⟩
            by_cases hjk : j < k
            · exact HSM.out j hjk
            · obtain rfl : j = k := by omega
              rw [← HS.out, ← HT.out]
          case measure => simp [intOf]; omega
        · have hq := toList_ne hst
          have HN := Lib.hid hst
          clear hst
          go_wp2
          go_quiet (fail)
          go_wp2
          go_ret
          refine ⟨⟨false, rfl, ?_⟩, grown_drewN HG.out _⟩
          constructor
          · intro h; cases h
          · intro h
            subst h
            exact absurd (HS.out.trans HT.out.symm) HN.out
      · obtain rfl : k = ss.length := by omega
        clear hg
        go_wp2
        go_ret
        exact ⟨⟨true, rfl, fun _ => same_at_end ss tt HL.out HSM.out, fun _ => rfl⟩, HG.out⟩
  · have hlI : ((ss.length : Int) != (tt.length : Int)) = true := by rw [bne_iff_ne]; omega
    have HL := Lib.hid hl
    clear hl
    go_enter Tryd.func18, Tryd.ntmps18
    go_wp2
    go_ret
    exact ⟨⟨false, rfl, fun h => absurd h (by simp), fun h => absurd (congrArg List.length h) (by have := HL.out; exact this)⟩, grown_refl _ _⟩

end Go.Proofs.YtnpgdjckhkmiiaaDoor
