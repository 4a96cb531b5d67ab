/- Lists of texts, copied by the laws into a block of their own. -/
import Derived.Test.YtecekbhkombnnaaGreatDoorM1
import Derived.Test.YtecekbhkombnnaaGreatDoorB0
namespace Go.Proofs.YtecekbhkombnnaaGreatDoor
open Go.RowKit

set_option maxRecDepth 100000 in
set_option maxHeartbeats 1000000 in
theorem toS2_any (w : World) (base : Nat) (ao : Option Addr) (cap : Nat) (ss : List ByteArray) (hl : Lies w base ao ss) (hn : ss.length ≤ 1048576) :
    Calls Tryz.prog 24 #[.slice ao ss.length cap] w fun e w' => e = .returned (.slice (some ⟨w.heap.size, 0, none⟩) ss.length ss.length) ∧ Blk w' w.heap.size 9 (strs ss) ∧ w.grownBy w' none := by
  have HL := Lib.hid hl
  clear hl
  obtain ⟨i9, hi9, hz0, hz1, hz2⟩ := info_parts info9
  have hmk : ∀ W : World, (Instr.makeSlice 22 (.int .i64 (ss.length : Int)) (.int .i64 (ss.length : Int))).run Tryz.prog W = .ok (.slice (some ⟨W.heap.size, 0, none⟩) ss.length ss.length) (W.alloc (.cells (madeCells #[.string ⟨#[]⟩] ss.length) 9)) := fun W => by
    have := run_make (P := Tryz.prog) W 22 9 i9 (.string ⟨#[]⟩) Tryz.underlying22 hi9 hz0 .i64 .i64 ss.length (ss.length : Int) (by omega) (by omega) (by rw [hz2]; omega) (by omega)
    rw [this, hz1, show ((ss.length : Int)).toNat = ss.length from by omega]
    simp [Value.cells]
  have HB0 := Lib.hid (show Blk (w.alloc (.cells (madeCells #[.string ⟨#[]⟩] ss.length) 9)) w.heap.size 9 (strs (ss.take 0) ++ List.replicate (ss.length - 0) (Value.string ⟨#[]⟩)) from by
    have : madeCells #[Value.string ⟨#[]⟩] ss.length = (strs (ss.take 0) ++ List.replicate (ss.length - 0) (Value.string ⟨#[]⟩)).toArray := by rw [made_one]; simp [strs]
    rw [this]
    exact Blk.new w 9 _)
  go_enter Tryz.func24, Tryz.ntmps24
  go_wp2
  go_loopw [4] (fun i wr => ∃ k : Nat, k ≤ ss.length ∧ i = .int .i64 k ∧ Blk wr w.heap.size 9 (strs (ss.take k) ++ List.replicate (ss.length - k) (Value.string ⟨#[]⟩)) ∧ w.grownBy wr none) (fun i _ => ss.length - (intOf i).toNat)
  case atStart => exact ⟨0, Nat.zero_le _, rfl, HB0.out, grown_alloc (grown_refl _ _) _⟩
  case round =>
    obtain ⟨k, hk, rfl, hb, hg⟩ := hrel
    have HB := Lib.hid hb
    have HG := Lib.hid hg
    have hlt2 := hb.lt
    clear hb hg
    by_cases hlt : k < ss.length
    · obtain ⟨s, hse⟩ : ∃ s, s = ss.getD k ByteArray.empty := ⟨_, rfl⟩
      rcases HL.out with h0 | ⟨ab, o, rfl, -, hc⟩
      · omega
      have d0 := HG.out.cell (hc k hlt) (by simp)
      rw [← hse] at d0
      have d1 : wr.cell? ⟨w.heap.size, k, none⟩ = some (.string ⟨#[]⟩) := by
        refine HB.out.cell ?_
        have hl : (strs (ss.take k)).length = k := by simp [strs]; omega
        rw [List.getElem?_append_right (by omega), hl, Nat.sub_self, List.getElem?_replicate, if_pos (by omega)]
      have d2 := HB.out.frozen k
      have HST := Lib.hid (show (strs (ss.take k) ++ List.replicate (ss.length - k) (Value.string ⟨#[]⟩)).set k (.string s) = strs (ss.take (k + 1)) ++ List.replicate (ss.length - (k + 1)) (Value.string ⟨#[]⟩) from by rw [hse]; exact set_step ss k hlt)
      have hkI : (k : Int) < ss.length := by omega
      clear hc hse
      go_wp2
      go_roundw
      case rel =>
        refine ⟨k + 1, by omega, by go_num, ?_, grown_into HG.out (grown_set (grown_refl _ _) k _) (Nat.le_refl _)⟩
        have := HB.out.set k (.string s)
        rw [HST.out] at this
        exact this
      case measure => simp [intOf]; omega
    · obtain rfl : k = ss.length := by omega
      go_wp2
      go_ret
      refine ⟨rfl, ?_, HG.out⟩
      have := HB.out
      rw [Nat.sub_self, List.take_length] at this
      simpa using this

theorem Blk.row {w : World} {g : Nat} {t : TypeId} {ss : List ByteArray} (h : Blk w g t (strs ss)) (base : Nat) (hb : base ≤ g) : Row w base (.slice (some ⟨g, 0, none⟩) ss.length ss.length) (strs ss) := by
  refine .inr ⟨g, ss.length, by rw [strs_len], hb, h.lt, by rw [strs_len]; exact Nat.le_refl _, fun j hj => ?_, fun j hj => ?_⟩
  · rw [h.cell (List.getElem?_eq_getElem hj), List.getElem?_eq_getElem hj]
  · have hj' : j < (strs ss).length := by rw [strs_len]; exact hj
    exact ⟨by rw [h.cell (List.getElem?_eq_getElem hj')]; rfl, h.frozen j⟩
theorem Blk.lies {w : World} {g : Nat} {t : TypeId} {ss : List ByteArray} (h : Blk w g t (strs ss)) : Lies w g (some ⟨g, 0, none⟩) ss := by
  refine .inr ⟨g, 0, rfl, Nat.le_refl _, fun j hj => ?_⟩
  rw [Nat.zero_add]
  exact h.cell (by simp [strs, hj])

end Go.Proofs.YtecekbhkombnnaaGreatDoor
