/- Values copied by the exact laws. -/
import Derived.Test.YtgmigloafcejdaaGreatDoorV1
namespace Go.Proofs.YtgmigloafcejdaaGreatDoor
open Go.RowKit

def strs (ss : List ByteArray) : List Value := ss.map Value.string
theorem set_step (ss : List ByteArray) (k : Nat) (hk : k < ss.length) : (strs (ss.take k) ++ List.replicate (ss.length - k) (Value.string ⟨#[]⟩)).set k (.string (ss.getD k ByteArray.empty)) = strs (ss.take (k + 1)) ++ List.replicate (ss.length - (k + 1)) (Value.string ⟨#[]⟩) := by
  have hl : (strs (ss.take k)).length = k := by simp [strs]; omega
  rw [List.set_append_right _ _ (by omega), hl, Nat.sub_self, show ss.length - k = (ss.length - (k + 1)) + 1 from by omega, List.replicate_succ, List.set_cons_zero, List.take_succ_eq_append_getElem hk, show ss.getD k ByteArray.empty = ss[k] from by simp [hk]]
  simp only [strs, List.map_append, List.map_cons, List.map_nil, List.append_assoc, List.cons_append, List.nil_append]
theorem made_one (z : Value) (n : Nat) : madeCells #[z] n = Array.replicate n z := by
  unfold madeCells
  apply Array.ext
  · simp
  · intro i h1 h2
    simp [Nat.mod_one]
theorem info9 : (Tryz.prog.info? 9).map (fun i => (i.zero, i.size, i.bytes)) = some (some (.string ⟨#[]⟩), 1, 16) := by kernel_rfl

set_option maxRecDepth 100000 in
set_option maxHeartbeats 1000000 in
theorem toS_any (w : World) (base : Nat) (ao : Option Addr) (cap : Nat) (ss : List ByteArray) (hl : Lies w base ao ss) (hn : ss.length ≤ 1048576) :
    Calls Tryz.prog 45 #[.slice ao ss.length cap] w fun e w' => e = .returned (.slice (some ⟨w.heap.size, 0, none⟩) ss.length ss.length) ∧ Lies w' w.heap.size (some ⟨w.heap.size, 0, none⟩) ss ∧ w.grownBy w' none := by
  have HL := Lib.hid hl
  clear hl
  obtain ⟨i9, hi9, hz0, hz1, hz2⟩ := info_parts info9
  have hmk : ∀ W : World, (Instr.makeSlice 24 (.int .i64 (ss.length : Int)) (.int .i64 (ss.length : Int))).run Tryz.prog W = .ok (.slice (some ⟨W.heap.size, 0, none⟩) ss.length ss.length) (W.alloc (.cells (madeCells #[.string ⟨#[]⟩] ss.length) 9)) := fun W => by
    have := run_make (P := Tryz.prog) W 24 9 i9 (.string ⟨#[]⟩) Tryz.underlying24 hi9 hz0 .i64 .i64 ss.length (ss.length : Int) (by omega) (by omega) (by rw [hz2]; omega) (by omega)
    rw [this, hz1, show ((ss.length : Int)).toNat = ss.length from by omega]
    simp [Value.cells]
  have HB0 := Lib.hid (show Blk (w.alloc (.cells (madeCells #[.string ⟨#[]⟩] ss.length) 9)) w.heap.size 9 (strs (ss.take 0) ++ List.replicate (ss.length - 0) (Value.string ⟨#[]⟩)) from by
    have : madeCells #[Value.string ⟨#[]⟩] ss.length = (strs (ss.take 0) ++ List.replicate (ss.length - 0) (Value.string ⟨#[]⟩)).toArray := by rw [made_one]; simp [strs]
    rw [this]
    exact Blk.new w 9 _)
  go_enter Tryz.func45, Tryz.ntmps45
  go_wp2
  go_loopw [4] (fun i wr => ∃ k : Nat, k ≤ ss.length ∧ i = .int .i64 k ∧ Blk wr w.heap.size 9 (strs (ss.take k) ++ List.replicate (ss.length - k) (Value.string ⟨#[]⟩)) ∧ w.grownBy wr none) (fun i _ => ss.length - (intOf i).toNat)
  case atStart => exact ⟨0, Nat.zero_le _, rfl, HB0.out, grown_alloc (grown_refl _ _) _⟩
  case round =>
    obtain ⟨k, hk, rfl, hb, hg⟩ := hrel
    have HB := Lib.hid hb
    have HG := Lib.hid hg
    have hlt2 := hb.lt
    clear hb hg
    by_cases hlt : k < ss.length
    · obtain ⟨s, hse⟩ : ∃ s, s = ss.getD k ByteArray.empty := ⟨_, rfl⟩
      rcases HL.out with h0 | ⟨ab, o, rfl, -, hc⟩
      · omega
      have d0 := HG.out.cell (hc k hlt) (by simp)
      rw [← hse] at d0
      have d1 : wr.cell? ⟨w.heap.size, k, none⟩ = some (.string ⟨#[]⟩) := by
        refine HB.out.cell ?_
        have hl : (strs (ss.take k)).length = k := by simp [strs]; omega
        rw [List.getElem?_append_right (by omega), hl, Nat.sub_self, List.getElem?_replicate, if_pos (by omega)]
      have d2 := HB.out.frozen k
      have HST := Lib.hid (show (strs (ss.take k) ++ List.replicate (ss.length - k) (Value.string ⟨#[]⟩)).set k (.string s) = strs (ss.take (k + 1)) ++ List.replicate (ss.length - (k + 1)) (Value.string ⟨#[]⟩) from by rw [hse]; exact set_step ss k hlt)
      have hkI : (k : Int) < ss.length := by omega
      clear hc hse
      go_wp2
      go_roundw
      case rel =>
        refine ⟨k + 1, by omega, by go_num, ?_, grown_into HG.out (grown_set (grown_refl _ _) k _) (Nat.le_refl _)⟩
        have := HB.out.set k (.string s)
        rw [HST.out] at this
        exact this
      case measure => simp [intOf]; omega
    · obtain rfl : k = ss.length := by omega
      go_wp2
      go_ret
      refine ⟨rfl, .inr ⟨w.heap.size, 0, rfl, Nat.le_refl _, fun j hj => ?_⟩, HG.out⟩
      rw [Nat.zero_add]
      refine HB.out.cell ?_
      rw [List.getElem?_append_left (by simp [strs]; omega)]
      simp [strs, hj]

def z5 : List Value := [.int .i64 0, .int .i64 0, .string ⟨#[]⟩, .slice none 0 0, .slice none 0 0]
def zs5 : Nat → List Value
  | 0 => []
  | m + 1 => z5 ++ zs5 m
theorem zs5_len (m : Nat) : (zs5 m).length = m * 5 := by
  induction m with
  | zero => rfl
  | succ m ih => simp [zs5, z5, ih]; omega
theorem zs5_get (m i : Nat) (h : i < m * 5) : (zs5 m)[i]? = z5[i % 5]? := by
  induction m generalizing i with
  | zero => omega
  | succ m ih =>
    unfold zs5
    by_cases h5 : i < 5
    · rw [List.getElem?_append_left (by simpa [z5] using h5), Nat.mod_eq_of_lt h5]
    · rw [List.getElem?_append_right (by simp [z5]; omega), show z5.length = 5 from rfl, ih (i - 5) (by omega)]
      congr 1
      omega
theorem made_five (n : Nat) : madeCells #[Value.int .i64 0, .int .i64 0, .string ⟨#[]⟩, .slice none 0 0, .slice none 0 0] (n * 5) = (zs5 n).toArray := by
  unfold madeCells
  apply Array.ext
  · simp [zs5_len]
  · intro i h1 h2
    simp at h1
    have hz := zs5_get n i h1
    have hlt : i < (zs5 n).length := by rw [zs5_len]; exact h1
    rw [List.getElem?_eq_getElem hlt] at hz
    have h5 : i % 5 = 0 ∨ i % 5 = 1 ∨ i % 5 = 2 ∨ i % 5 = 3 ∨ i % 5 = 4 := by omega
    rcases h5 with h | h | h | h | h <;> simp [h, z5] at hz ⊢ <;> rw [hz]
theorem set_five (X : List Value) (k m : Nat) (hX : X.length = k * 5) (c0 c1 c2 c3 c4 : Value) : (((((X ++ zs5 (m + 1)).set (k * 5) c0).set (k * 5 + 1) c1).set (k * 5 + 2) c2).set (k * 5 + 3) c3).set (k * 5 + 4) c4 = (X ++ [c0, c1, c2, c3, c4]) ++ zs5 m := by
  rw [List.set_append_right _ _ (by omega), List.set_append_right _ _ (by omega), List.set_append_right _ _ (by omega), List.set_append_right _ _ (by omega), List.set_append_right _ _ (by omega), hX, List.append_assoc]
  simp [zs5, z5, Nat.add_sub_cancel_left]
theorem get_five (X : List Value) (k m j : Nat) (hX : X.length = k * 5) (hj : j < 5) : (X ++ zs5 (m + 1))[k * 5 + j]? = z5[j]? := by
  rw [List.getElem?_append_right (by omega), hX, Nat.add_sub_cancel_left, zs5, List.getElem?_append_left (by simpa [z5] using hj)]
theorem info30 : (Tryz.prog.info? 27).map (fun i => (i.zero, i.size, i.bytes)) = some (some (.agg #[.int .i64 0, .int .i64 0, .string ⟨#[]⟩, .slice none 0 0, .slice none 0 0]), 5, 80) := by kernel_rfl
end Go.Proofs.YtgmigloafcejdaaGreatDoor
