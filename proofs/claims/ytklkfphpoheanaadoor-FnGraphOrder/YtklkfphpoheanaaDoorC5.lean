/- impl's stuck. -/
import Derived.Test.YtklkfphpoheanaaDoorO1
import Derived.Test.YtklkfphpoheanaaDoorC1
import Derived.Test.YtklkfphpoheanaaDoorS1
namespace Go.Proofs.YtklkfphpoheanaaDoor
open Go.RowKit

theorem with_bit (s k j : Nat) : (s ||| 2 ^ k).testBit j = (s.testBit j || decide (j = k)) := by
  rw [Nat.testBit_or, Nat.testBit_two_pow]
  by_cases h : k = j
  · simp [h]
  · simp [h, show ¬ j = k from fun e => h e.symm]

set_option maxRecDepth 100000 in
set_option maxHeartbeats 1000000 in
theorem stuck_any (w : World) (n : Nat) (A : List Nat) (hn : n ≤ 16) (hA : A.length = 16) (hAl : ∀ a ∈ A, a < 65536) : Calls Tryd.prog 42 #[.agg (gCells n A).toArray] w fun e w' => ∃ (s : Nat) (D : List Int), e = .returned (.int .u16 (s : Int)) ∧ s < 65536 ∧ (∀ j, s.testBit j = decide (j < n ∧ ¬ (j : Int) ∈ D)) ∧ Chain A n D ∧ (∀ k, freeB A n D k = false) ∧ w.grownBy w' none := by
  have HBG := Lib.hid (Blk.new w 49 (gCells n A))
  have HG0 := Lib.hid (show w.grownBy (w.alloc (.cells (gCells n A).toArray 49)) none from grown_alloc (grown_refl _ _) _)
  have c0 : (w.alloc (.cells (gCells n A).toArray 49)).cell? ⟨w.heap.size, 0, none⟩ = some (.int .i64 (n : Int)) := HBG.out.cell rfl
  have HI := Lib.hid (show (Tryd.prog.info? 49).map (·.size) = some (gCells n A).length from by rw [gCells_len, hA]; exact info52)
  have HORD := Lib.hid (fun W => order_any W n A hn hA hAl)
  clear hAl
  generalize (gCells n A).toArray = C at HBG HG0 c0 ⊢
  go_enter Tryd.func42, Tryd.ntmps42
  go_wp2
  go_loop [3, 9] (fun m i => ∃ (t s : Nat), t ≤ n ∧ i = .int .i64 t ∧ m = .int .u16 s ∧ s < 65536 ∧ ∀ j, s.testBit j = decide (j < t)) (fun _ i => n - (intOf i).toNat)
  case atStart => exact ⟨0, 0, Nat.zero_le _, rfl, rfl, by decide, fun j => by simp⟩
  case round =>
    obtain ⟨t, s, ht, rfl, rfl, hs, hbit⟩ := hrel
    have HBIT := Lib.hid hbit
    clear hbit c0
    by_cases hlt : t < n
    · have htI : (t : Int) < n := by omega
      have HW := Lib.hid (fun W => with_any W s t hs (by omega))
      go_wp2_with (first | (go_at_call 34; refine (HW.out _).mono ?_; rintro e w' ⟨rfl, rfl⟩))
      refine ⟨⟨t + 1, s ||| 2 ^ t, by omega, by go_num, rfl, with_lt s t hs (by omega), fun j => ?_⟩, by simp [intOf]; omega⟩
      rw [with_bit, HBIT.out j, Bool.eq_iff_iff]
      simp
      omega
    · obtain rfl : t = n := by omega
      go_wp2_with (first | ((with_reducible refine wpList_load_blk ?_ 49 (.tmp 1) ?_ w.heap.size (gCells t A) 49 ?_ _ Tryd.underlying49 ?_ ?_ ?_ ?_); exact rfl; exact rfl; exact HBG.out; exact rfl; exact HI.out; exact rfl))
      refine (HORD.out _).mono ?_
      rintro e w3 ⟨v, D, rfl, hrow, hch, hfin, hg3⟩
      have HG := Lib.hid (grown_trans HG0.out hg3)
      have hlt2 := hch.lt
      have HCH := Lib.hid hch
      have HFI := Lib.hid hfin
      have hDl := hch.len
      obtain ⟨ta, gq, cq, hvq, -, hta, hc, -⟩ := row_ints hrow
      subst hvq
      have HTA := Lib.hid hta
      have HC := Lib.hid hc
      have HLT := Lib.hid hlt2
      clear hrow hch hfin hg3 hta hc hlt2 HORD HBG HG0 HI
      go_wp2
      go_loop [3, 19] (fun m i => ∃ (q s : Nat), q ≤ D.length ∧ i = .int .i64 q ∧ m = .int .u16 s ∧ s < 65536 ∧ ∀ j, s.testBit j = decide (j < t ∧ ¬ (j : Int) ∈ D.take q)) (fun _ i => D.length - (intOf i).toNat)
      case atStart => exact ⟨0, s, Nat.zero_le _, rfl, rfl, hs, fun j => by rw [HBIT.out j]; simp⟩
      case round =>
        obtain ⟨q, s2, hq, rfl, rfl, hs2, hbit⟩ := hrel
        have HB2 := Lib.hid hbit
        clear hbit
        by_cases hlq : q < D.length
        · have hqI : (q : Int) < D.length := by omega
          have e1 := HTA.out (by omega)
          subst e1
          have d0 := HC.out q hlq
          obtain ⟨x, hx⟩ : ∃ x, x = D.getD q 0 := ⟨_, rfl⟩
          rw [← hx] at d0
          have hxm := HLT.out x (mem_of_at hlq hx.symm)
          obtain ⟨c, rfl⟩ := Int.eq_ofNat_of_zero_le hxm.1
          have hc16 : c < 16 := by have := hxm.2; omega
          have HX := Lib.hid hx
          have HW := Lib.hid (fun W => without_any W s2 c hs2 hc16)
          clear hx hxm
          go_wp2_with (first | (go_at_call 39; refine (HW.out _).mono ?_; rintro e w' ⟨rfl, hw⟩; have hw := hw.symm; subst hw))
          refine ⟨⟨q + 1, wo s2 c, by omega, by go_num, rfl, wo_lt s2 c hs2, fun j => ?_⟩, by simp [intOf]; omega⟩
          rw [wo_bit s2 c j hs2 hc16, HB2.out j, List.take_succ_eq_append_getElem hlq, show D[q] = (c : Int) from by have := HX.out; simp [hlq] at this; exact this.symm, Bool.eq_iff_iff]
          simp [and_assoc]
          omega
        · obtain rfl : q = D.length := by omega
          go_wp2
          go_ret
          exact ⟨s2, rfl, hs2, D, fun j => by rw [HB2.out j, List.take_length]; simp, HCH.out, HFI.out, HG.out⟩
end Go.Proofs.YtklkfphpoheanaaDoor
