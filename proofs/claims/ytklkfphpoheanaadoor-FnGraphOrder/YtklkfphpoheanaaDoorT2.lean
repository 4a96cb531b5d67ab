/- Copies of needs. -/
import Derived.Test.YtklkfphpoheanaaDoorT1
namespace Go.Proofs.YtklkfphpoheanaaDoor
open Go.RowKit

def flat (E : List (Int × Int)) : List Value := E.flatMap fun e => [Value.int .i64 e.1, .int .i64 e.2]
theorem flat_len (E : List (Int × Int)) : (flat E).length = 2 * E.length := by
  induction E with
  | nil => rfl
  | cons e r ih => rw [show flat (e :: r) = [Value.int .i64 e.1, .int .i64 e.2] ++ flat r from by simp [flat], List.length_append, ih]; simp; omega
theorem flat_get : ∀ (E : List (Int × Int)) (j : Nat), j < E.length → (flat E)[j * 2]? = some (.int .i64 (E.getD j (0, 0)).1) ∧ (flat E)[j * 2 + 1]? = some (.int .i64 (E.getD j (0, 0)).2)
  | [], j, h => absurd h (by simp)
  | e :: r, 0, _ => by simp [flat]
  | e :: r, j + 1, h => by
    have := flat_get r j (by simpa using h)
    rw [show flat (e :: r) = Value.int .i64 e.1 :: .int .i64 e.2 :: flat r from by simp [flat], show (j + 1) * 2 = j * 2 + 1 + 1 from by omega, List.getElem?_cons_succ, List.getElem?_cons_succ, List.getElem?_cons_succ, List.getElem?_cons_succ]
    simpa using this
theorem flat_take (E : List (Int × Int)) (k : Nat) (hk : k < E.length) : flat (E.take (k + 1)) = flat (E.take k) ++ [Value.int .i64 (E.getD k (0, 0)).1, .int .i64 (E.getD k (0, 0)).2] := by
  unfold flat
  rw [List.take_succ_eq_append_getElem hk, List.flatMap_append]
  congr 1
  simp [hk]
theorem NLies.of_blk {w : World} {b : Nat} {t : TypeId} {E : List (Int × Int)} (h : Blk w b t (flat E)) : NLies w (some ⟨b, 0, none⟩) E :=
  .inr ⟨b, 0, rfl, fun j hj => by
    have := flat_get E j hj
    rw [Nat.zero_add, Nat.mul_comm]
    exact ⟨h.cell this.1, h.cell this.2⟩⟩
def zs (m : Nat) : List Value := List.replicate (2 * m) (.int .i64 0)
theorem made_two (n : Nat) : madeCells #[Value.int .i64 0, .int .i64 0] (n * 2) = (flat [] ++ zs n).toArray := by
  unfold madeCells zs
  apply Array.ext
  · simp [flat]; omega
  · intro i h1 h2
    simp [flat]
    have : i % 2 = 0 ∨ i % 2 = 1 := by omega
    rcases this with h | h <;> simp [h]
theorem set_two (E : List (Int × Int)) (k : Nat) (hk : k < E.length) : ((flat (E.take k) ++ zs (E.length - k)).set (k * 2) (.int .i64 (E.getD k (0, 0)).1)).set (k * 2 + 1) (.int .i64 (E.getD k (0, 0)).2) = flat (E.take (k + 1)) ++ zs (E.length - (k + 1)) := by
  have hl : (flat (E.take k)).length = k * 2 := by rw [flat_len, List.length_take]; omega
  rw [flat_take E k hk, List.append_assoc]
  rw [List.set_append_right _ _ (by omega), List.set_append_right _ _ (by omega), hl, Nat.sub_self, Nat.add_sub_cancel_left]
  congr 1
  unfold zs
  rw [show 2 * (E.length - k) = (2 * (E.length - (k + 1)) + 1) + 1 from by omega, List.replicate_succ, List.replicate_succ]
  rfl
theorem zero_get (E : List (Int × Int)) (k : Nat) (hk : k < E.length) : (flat (E.take k) ++ zs (E.length - k))[k * 2]? = some (.int .i64 0) ∧ (flat (E.take k) ++ zs (E.length - k))[k * 2 + 1]? = some (.int .i64 0) := by
  have hl : (flat (E.take k)).length = k * 2 := by rw [flat_len, List.length_take]; omega
  unfold zs
  rw [List.getElem?_append_right (by omega), List.getElem?_append_right (by omega), hl, List.getElem?_replicate, if_pos (by omega), List.getElem?_replicate, if_pos (by omega)]
  exact ⟨rfl, rfl⟩
theorem info32 : (Tryd.prog.info? 32).map (fun i => (i.zero, i.size, i.bytes)) = some (some (.agg #[.int .i64 0, .int .i64 0]), 2, 16) := by kernel_rfl

set_option maxRecDepth 100000 in
set_option maxHeartbeats 1000000 in
theorem toNeedS_any (w : World) (ao : Option Addr) (cap : Nat) (E : List (Int × Int)) (hE : NLies w ao E) (hl : E.length ≤ 1048576) :
    Calls Tryd.prog 15 #[.slice ao E.length cap] w fun e w' => e = .returned (.slice (some ⟨w.heap.size, 0, none⟩) E.length E.length) ∧ Hid (Blk w' w.heap.size 32 (flat E)) ∧ Hid (w.grownBy w' none) := by
  have HE := Lib.hid hE
  clear hE
  obtain ⟨i9, hi9, hz0, hz1, hz2⟩ := info_parts info32
  have hmk : ∀ W : World, (Instr.makeSlice 23 (.int .i64 (E.length : Int)) (.int .i64 (E.length : Int))).run Tryd.prog W = .ok (.slice (some ⟨W.heap.size, 0, none⟩) E.length E.length) (W.alloc (.cells (madeCells #[.int .i64 0, .int .i64 0] (E.length * 2)) 32)) := fun W => by
    have := run_make (P := Tryd.prog) W 23 32 i9 (.agg #[.int .i64 0, .int .i64 0]) Tryd.underlying23 hi9 hz0 .i64 .i64 E.length (E.length : Int) (by omega) (by omega) (by rw [hz2]; omega) (by omega)
    rw [this, hz1, show ((E.length : Int)).toNat = E.length from by omega]
    simp [Value.cells]
  have HB0 := Lib.hid (show Blk (w.alloc (.cells (madeCells #[.int .i64 0, .int .i64 0] (E.length * 2)) 32)) w.heap.size 32 (flat (E.take 0) ++ zs (E.length - 0)) from by
    rw [made_two, List.take_zero, Nat.sub_zero]
    exact Blk.new w 32 _)
  go_enter Tryd.func15, Tryd.ntmps15
  go_wp2
  go_loopw [4] (fun i wr => ∃ k : Nat, k ≤ E.length ∧ i = .int .i64 k ∧ Blk wr w.heap.size 32 (flat (E.take k) ++ zs (E.length - k)) ∧ w.grownBy wr none) (fun i _ => E.length - (intOf i).toNat)
  case atStart => exact ⟨0, Nat.zero_le _, rfl, HB0.out, grown_alloc (grown_refl _ _) _⟩
  case round =>
    obtain ⟨k, hk, rfl, hb, hg⟩ := hrel
    have HB := Lib.hid hb
    have HG := Lib.hid hg
    have hlt2 := hb.lt
    clear hb hg HB0
    by_cases hlt : k < E.length
    · rcases HE.out with h00 | ⟨ab, o, rfl, hc⟩
      · omega
      have HST := Lib.hid (set_two E k hlt)
      have HZ := Lib.hid (zero_get E k hlt)
      obtain ⟨f, hf⟩ : ∃ f, f = (E.getD k (0, 0)).1 := ⟨_, rfl⟩
      obtain ⟨g, hgg⟩ : ∃ g, g = (E.getD k (0, 0)).2 := ⟨_, rfl⟩
      have d0 := HG.out.cell (hc k hlt).1 (by simp)
      have d1 := HG.out.cell (hc k hlt).2 (by simp)
      rw [← hf, Nat.mul_comm] at d0
      rw [← hgg, Nat.mul_comm] at d1
      rw [← hf, ← hgg] at HST
      have hkI : (k : Int) < E.length := by omega
      clear hc hf hgg
      go_wp2_with fail
      refine (toNeed_any _ f g).mono ?_
      rintro e w1 ⟨rfl, hg1⟩
      have hb1 := HB.out.kept hg1 (by simp)
      have HB1 := Lib.hid hb1
      have e0 : w1.cell? ⟨w.heap.size, k * 2, none⟩ = some (.int .i64 0) := hb1.cell HZ.out.1
      have e1 : w1.cell? ⟨w.heap.size, k * 2 + 1, none⟩ = some (.int .i64 0) := hb1.cell HZ.out.2
      have e2 := hb1.frozen (k * 2)
      have e3 := hb1.frozen (k * 2 + 1)
      have HG1 := Lib.hid (grown_trans HG.out hg1)
      clear hb1 hg1 d0 d1 HB HG
      go_wp2
      go_roundw
      case rel =>
        refine ⟨k + 1, by omega, by go_num, ?_, grown_into HG1.out (grown_set (grown_set (grown_refl _ _) _ _) _ _) (Nat.le_refl _)⟩
        have := (HB1.out.set (k * 2) (.int .i64 f)).set (k * 2 + 1) (.int .i64 g)
        rw [HST.out] at this
        exact this
      case measure => simp [intOf]; omega
    · obtain rfl : k = E.length := by omega
      go_wp2
      go_ret
      refine ⟨rfl, Lib.hid ?_, HG⟩
      have := HB.out
      rw [List.take_length, Nat.sub_self] at this
      simpa [zs] using this

set_option maxRecDepth 100000 in
set_option maxHeartbeats 1000000 in
theorem eqNeedS_same (w : World) (E : List (Int × Int)) (hl : E.length ≤ 1048576) (g1 g2 c1 c2 : Nat) (t1 t2 : TypeId) (h1 : Blk w g1 t1 (flat E)) (h2 : Blk w g2 t2 (flat E)) :
    Calls Tryd.prog 17 #[.slice (some ⟨g1, 0, none⟩) E.length c1, .slice (some ⟨g2, 0, none⟩) E.length c2] w fun e w' => e = .returned (.bool true) ∧ w.grownBy w' none := by
  have H1 := Lib.hid h1
  have H2 := Lib.hid h2
  clear h1 h2
  go_enter Tryd.func17, Tryd.ntmps17
  go_wp2
  go_loopw [5] (fun i wr => ∃ k : Nat, k ≤ E.length ∧ i = .int .i64 k ∧ w.grownBy wr none) (fun i _ => E.length - (intOf i).toNat)
  case atStart => exact ⟨0, Nat.zero_le _, rfl, grown_refl _ _⟩
  case round =>
    obtain ⟨k, hk, rfl, hg⟩ := hrel
    have HG := Lib.hid hg
    by_cases hlt : k < E.length
    · have hf1 := flat_get E k hlt
      obtain ⟨f, hf⟩ : ∃ f, f = (E.getD k (0, 0)).1 := ⟨_, rfl⟩
      obtain ⟨g, hgg⟩ : ∃ g, g = (E.getD k (0, 0)).2 := ⟨_, rfl⟩
      rw [← hf, ← hgg] at hf1
      have d1 := hg.cell (H1.out.cell hf1.1) (by simp)
      have d2 := hg.cell (H1.out.cell hf1.2) (by simp)
      have d3 := hg.cell (H2.out.cell hf1.1) (by simp)
      have d4 := hg.cell (H2.out.cell hf1.2) (by simp)
      have hkI : (k : Int) < E.length := by omega
      clear hg hf hgg hf1
      go_wp2
      go_region_with (
        go_at_call 31
        refine (eqNeed_same _ f g).mono ?_
        rintro e w1 ⟨rfl, hg1⟩
        have HG1 := Lib.hid (show w.grownBy w1 none from grown_trans HG.out (grown_undrew hg1))
        clear hg1)
      all_goals
        go_wp2
        go_roundw
        case rel => exact ⟨k + 1, by omega, by go_num, HG1.out⟩
        case measure => simp [intOf]; omega
    · obtain rfl : k = E.length := by omega
      clear hg
      go_wp2
      go_ret
      exact ⟨rfl, HG.out⟩

end Go.Proofs.YtklkfphpoheanaaDoor
