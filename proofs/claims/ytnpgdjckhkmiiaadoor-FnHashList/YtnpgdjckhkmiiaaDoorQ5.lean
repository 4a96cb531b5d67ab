import Derived.Test.YtnpgdjckhkmiiaaDoorQ4
namespace Go.Proofs.YtnpgdjckhkmiiaaDoor
open Go.RowKit

theorem set_step (ss : List ByteArray) (k : Nat) (hk : k < ss.length) : (strs (ss.take k) ++ List.replicate (ss.length - k) (Value.string ⟨#[]⟩)).set k (.string (ss.getD k ByteArray.empty)) = strs (ss.take (k + 1)) ++ List.replicate (ss.length - (k + 1)) (Value.string ⟨#[]⟩) := by
  have hl : (strs (ss.take k)).length = k := by simp [strs]; omega
  rw [List.set_append_right _ _ (by omega), hl, Nat.sub_self, show ss.length - k = (ss.length - (k + 1)) + 1 from by omega, List.replicate_succ, List.set_cons_zero, List.take_succ_eq_append_getElem hk, show ss.getD k ByteArray.empty = ss[k] from by simp [hk]]
  simp only [strs, List.map_append, List.map_cons, List.map_nil, List.append_assoc, List.cons_append, List.nil_append]
theorem made_one (z : Value) (n : Nat) : madeCells #[z] n = Array.replicate n z := by
  unfold madeCells
  apply Array.ext
  · simp
  · intro i h1 h2
    simp [Nat.mod_one]

set_option maxHeartbeats 1000000 in
theorem to_walk (w : World) (ao : Option Addr) (cap : Nat) (ss : List ByteArray) (hl : Lies w ao ss) (hn : ss.length ≤ 1048576) :
    Calls Tryd.prog 20 #[.slice ao ss.length cap] w fun e w' => e = .returned (.slice (some ⟨w.heap.size, 0, none⟩) ss.length ss.length) ∧ Hid (∀ j, j < ss.length → w'.cell? ⟨w.heap.size, j, none⟩ = some (.string (ss.getD j ByteArray.empty))) ∧ Hid (w.grownBy w' none) := by
  have HL := Lib.hid hl
  clear hl
  obtain ⟨i9, hi9, hz0, hz1, hz2⟩ := info_parts info9
  have hmk : ∀ W : World, (Instr.makeSlice 29 (.int .i64 (ss.length : Int)) (.int .i64 (ss.length : Int))).run Tryd.prog W = .ok (.slice (some ⟨W.heap.size, 0, none⟩) ss.length ss.length) (W.alloc (.cells (madeCells #[.string ⟨#[]⟩] ss.length) 9)) := fun W => by
    have := run_make (P := Tryd.prog) W 29 9 i9 (.string ⟨#[]⟩) Tryd.underlying29 hi9 hz0 .i64 .i64 ss.length (ss.length : Int) (by omega) (by omega) (by rw [hz2]; omega) (by omega)
    rw [this, hz1, show ((ss.length : Int)).toNat = ss.length from by omega]
    simp [Value.cells]
  have HB0 := Lib.hid (show Blk (w.alloc (.cells (madeCells #[.string ⟨#[]⟩] ss.length) 9)) w.heap.size 9 (strs (ss.take 0) ++ List.replicate (ss.length - 0) (Value.string ⟨#[]⟩)) from by
    have : madeCells #[Value.string ⟨#[]⟩] ss.length = (strs (ss.take 0) ++ List.replicate (ss.length - 0) (Value.string ⟨#[]⟩)).toArray := by rw [made_one]; simp [strs]
    rw [this]
    exact Blk.new w 9 _)
  go_enter Tryd.func20, Tryd.ntmps20
  go_wp2
  go_loopw [4] (fun i wr => ∃ k : Nat, k ≤ ss.length ∧ i = .int .i64 k ∧ Blk wr w.heap.size 9 (strs (ss.take k) ++ List.replicate (ss.length - k) (Value.string ⟨#[]⟩)) ∧ w.grownBy wr none) (fun i _ => ss.length - (intOf i).toNat)
  case atStart => exact ⟨0, Nat.zero_le _, rfl, HB0.out, grown_alloc (grown_refl _ _) _⟩
  case round =>
    obtain ⟨k, hk, rfl, hb, hg⟩ := hrel
    have HB := Lib.hid hb
    have HG := Lib.hid hg
    have hlt2 := hb.lt
    clear hb hg
    by_cases hlt : k < ss.length
    · obtain ⟨s, hse⟩ : ∃ s, s = ss.getD k ByteArray.empty := ⟨_, rfl⟩
      rcases HL.out with h0 | ⟨ab, o, rfl, hc⟩
      · omega
      have d0 := HG.out.cell (hc k hlt) (by simp)
      rw [← hse] at d0
      have d1 : wr.cell? ⟨w.heap.size, k, none⟩ = some (.string ⟨#[]⟩) := by
        refine HB.out.cell ?_
        have hl : (strs (ss.take k)).length = k := by simp [strs]; omega
        rw [List.getElem?_append_right (by omega), hl, Nat.sub_self, List.getElem?_replicate, if_pos (by omega)]
      have d2 := HB.out.frozen k
      have HST := Lib.hid (show (strs (ss.take k) ++ List.replicate (ss.length - k) (Value.string ⟨#[]⟩)).set k (.string s) = strs (ss.take (k + 1)) ++ List.replicate (ss.length - (k + 1)) (Value.string ⟨#[]⟩) from by rw [hse]; exact set_step ss k hlt)
      have hkI : (k : Int) < ss.length := by omega
      clear hc hse
      go_wp2
      go_roundw
      case rel =>
        refine ⟨k + 1, by omega, by go_num, ?_, grown_into HG.out (grown_set (grown_refl _ _) k _) (Nat.le_refl _)⟩
        have := HB.out.set k (.string s)
        rw [HST.out] at this
        exact this
      case measure => simp [intOf]; omega
    · obtain rfl : k = ss.length := by omega
      go_wp2
      go_ret
      refine ⟨rfl, Lib.hid fun j hj => ?_, HG⟩
      refine HB.out.cell ?_
      rw [List.getElem?_append_left (by simp [strs]; omega)]
      simp [strs, hj]

set_option maxHeartbeats 1000000 in
theorem eq_walk (w : World) (ss : List ByteArray) (hn : ss.length ≤ 1048576) (g1 g2 c1 c2 : Nat) (h1 : ∀ j, j < ss.length → w.cell? ⟨g1, j, none⟩ = some (.string (ss.getD j ByteArray.empty))) (h2 : ∀ j, j < ss.length → w.cell? ⟨g2, j, none⟩ = some (.string (ss.getD j ByteArray.empty))) :
    Calls Tryd.prog 21 #[.slice (some ⟨g1, 0, none⟩) ss.length c1, .slice (some ⟨g2, 0, none⟩) ss.length c2] w fun e w' => e = .returned (.bool true) ∧ w.grownBy w' none := by
  have H1 := Lib.hid h1
  have H2 := Lib.hid h2
  clear h1 h2
  go_enter Tryd.func21, Tryd.ntmps21
  go_wp2
  go_loopw [5] (fun i wr => ∃ k : Nat, k ≤ ss.length ∧ i = .int .i64 k ∧ w.grownBy wr none) (fun i _ => ss.length - (intOf i).toNat)
  case atStart => exact ⟨0, Nat.zero_le _, rfl, grown_refl _ _⟩
  case round =>
    obtain ⟨k, hk, rfl, hg⟩ := hrel
    have HG := Lib.hid hg
    by_cases hlt : k < ss.length
    · have d1 := hg.cell (H1.out k hlt) (by simp)
      have d2 := hg.cell (H2.out k hlt) (by simp)
      generalize ss.getD k ByteArray.empty = s at d1 d2
      have hkI : (k : Int) < ss.length := by omega
      clear hg
      go_wp2
      go_quiet (fail)
      go_wp2
      go_roundw
      case rel => exact ⟨k + 1, by omega, by go_num, grown_drewN HG.out _⟩
      case measure => simp [intOf]; omega
    · obtain rfl : k = ss.length := by omega
      clear hg
      go_wp2
      go_ret
      exact ⟨rfl, HG.out⟩

end Go.Proofs.YtnpgdjckhkmiiaaDoor
