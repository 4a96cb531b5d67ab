/- Texts and lists of texts, copied by the program. -/
import Derived.Test.YtecekbhkombnnaaGreatDoorP2
import Derived.Shelf.Lay
import Derived.Shelf.LaysM
import Derived.Shelf.Strconv.Clone
namespace Go.Proofs.YtecekbhkombnnaaGreatDoor
open Go.RowKit

shelf_lay LaysM.n316 Nm 316 at Tryz as Tryz.laysClone

theorem cloneL_any (w : World) (s : ByteArray) (hs : s.size ≤ 1048576) : Calls Tryz.prog 59 #[.string s] w fun e w' => e = .returned (.string s) ∧ w.grownBy w' none := by
  refine (Any.stringslite_Clone Tryz.laysClone s w (by omega)).mono ?_
  rintro e w' ⟨rfl, hb⟩
  exact ⟨rfl, grown_of_below hb none⟩

set_option maxHeartbeats 1000000 in
theorem clone_any (w : World) (s : ByteArray) (hs : s.size ≤ 1048576) : Calls Tryz.prog 28 #[.string s] w fun e w' => e = .returned (.string s) ∧ w.grownBy w' none := by
  have HC := Lib.hid (cloneL_any w s hs)
  go_enter Tryz.func28, Tryz.ntmps28
  go_wp2_with fail
  refine HC.out.mono ?_
  rintro e w1 ⟨rfl, hg⟩
  have HG := Lib.hid hg
  clear hg HC
  go_wp2
  go_ret
  exact ⟨rfl, HG.out⟩

set_option maxRecDepth 100000 in
set_option maxHeartbeats 2000000 in
theorem copied_any (w : World) (base : Nat) (ao : Option Addr) (cap : Nat) (ss : List ByteArray) (hl : Lies w base ao ss) (hn : ss.length ≤ 2097152) (hs : ∀ s ∈ ss, s.size ≤ 1048576) :
    Calls Tryz.prog 58 #[.slice ao ss.length cap] w fun e w' => ∃ v, e = .returned v ∧ Row w' w.heap.size v (strs ss) ∧ w.grownBy w' none := by
  have HL := Lib.hid hl
  have HS := Lib.hid hs
  clear hl hs
  obtain ⟨i9, hi9, hz0, hz1, hz2⟩ := info_parts info9
  go_enter Tryz.func58, Tryz.ntmps58
  go_wp2
  go_loopw [3, 8] (fun lv i wr => ∃ k : Nat, k ≤ ss.length ∧ i = .int .i64 k ∧ Hid (Row wr w.heap.size lv (strs (ss.take k))) ∧ w.grownBy wr none) (fun _ i _ => ss.length - (intOf i).toNat)
  case atStart => exact ⟨0, Nat.zero_le _, rfl, Lib.hid (Row.nil _ _), grown_refl _ _⟩
  case round =>
    obtain ⟨k, hk, rfl, HR, hg⟩ := hrel
    have HG := Lib.hid hg
    have hszW := hg.size
    clear hg
    by_cases hlt : k < ss.length
    · rcases HL.out with h00 | ⟨ab, o, rfl, -, hc⟩
      · omega
      obtain ⟨s, hse⟩ : ∃ s, s = ss.getD k ByteArray.empty := ⟨_, rfl⟩
      have hge : ss[k] = s := by rw [hse]; simp [hlt]
      have d0 := HG.out.cell (hc k hlt) (by simp)
      rw [← hse] at d0
      have HCA := Lib.hid (clone_any wr s (HS.out s (by rw [← hge]; exact List.getElem_mem hlt)))
      have HTK := Lib.hid (show strs (ss.take (k + 1)) = strs (ss.take k) ++ strs [s] from by
        rw [List.take_succ_eq_append_getElem hlt, hge]
        simp only [strs, List.map_append, List.map_cons, List.map_nil])
      have HLN := Lib.hid (show (strs (ss.take k)).length ≤ 2097152 from by simp [strs]; omega)
      have hkI : (k : Int) < ss.length := by omega
      clear hc hse hge
      go_wp2_with fail
      refine HCA.out.mono ?_
      rintro e w1 ⟨rfl, hg1⟩
      have HG1 := Lib.hid (grown_trans HG.out hg1)
      have HR1 := Lib.hid (HR.out.kept hg1 (by simp))
      have hsz1 : w.heap.size ≤ w1.heap.size := by have := hg1.size; omega
      clear hg1 HCA d0
      go_wp2_with (first | (at_builtin; refine wpList_append_row2 rfl _ _ 22 rfl 9 i9 (.string ⟨#[]⟩) 16 Tryz.underlying22 hi9 hz0 hz1 hz2 rfl w.heap.size _ (strs (ss.take k)) rfl (HR1.out.alloc _) ⟨_, 0, none⟩ 1 1 (strs [s]) rfl rfl (news_new _ 9 (strs [s])) (strs_one _) (by have := HLN.out; unfold maxLen; omega) (by have := HLN.out; omega) (by simp; omega) ?_; intro v2 w2 HR2 HG2 HO2))
      go_roundw
      case rel =>
        refine ⟨k + 1, by omega, by go_num, Lib.hid (by rw [HTK.out]; exact HR2.out), ?_⟩
        refine grown_own (grown_alloc HG1.out _) HG2.out (fun q hq => ?_)
        exact (HR1.out.lt q hq).1
      case measure => simp [intOf]; omega
    · obtain rfl : k = ss.length := by omega
      have hrow := HR.out
      rw [List.take_length] at hrow
      have HRW := Lib.hid hrow
      clear hrow
      go_wp2
      go_ret
      exact ⟨_, rfl, HRW.out, HG.out⟩
end Go.Proofs.YtecekbhkombnnaaGreatDoor
