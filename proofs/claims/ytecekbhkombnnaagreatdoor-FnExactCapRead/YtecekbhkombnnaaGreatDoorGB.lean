/- strings.SplitN at one byte: its pieces. -/
import Derived.Test.YtecekbhkombnnaaGreatDoorDJ
import Derived.Test.YtecekbhkombnnaaGreatDoorGZ
import Derived.Shelf.LaysM
import Derived.Shelf.Strings.Split
import Derived.Shelf.Lay
import Derived.Lib.IndexBytes
namespace Go.Proofs.YtecekbhkombnnaaGreatDoor
open Go.RowKit

shelf_lay LaysM.n147 Nm 147 at Tryz as Tryz.laysSplitN

/-- the runtime's bound holds some number -/
def MaxC (w : World) : Prop := ∃ m : Int, w.cell? ⟨2, 0, none⟩ = some (.int .i64 m)
theorem MaxC.grown {w w' : World} (h : MaxC w) (hg : w.grownBy w' none) : MaxC w' := h.elim fun m q => ⟨m, hg.cell q (by simp)⟩
theorem maxC_of {w : World} (h : w.ShapedOpen Tryz.prog) : MaxC w := Tryz.laysSplitN.s1_3 w h
theorem indexB_atB (c : UInt8) (s : ByteArray) : Lib.indexB s ⟨#[c]⟩ = atB c s := Lib.index_one s.data.toList c
theorem splitB_facts (c : UInt8) : ∀ (k : Nat) (s : ByteArray), Lib.splitB ⟨#[c]⟩ 0 k s ≠ [] ∧ joinB c (Lib.splitB ⟨#[c]⟩ 0 k s) = s ∧ (Lib.splitB ⟨#[c]⟩ 0 k s).length ≤ k + 1 ∧ ((Lib.splitB ⟨#[c]⟩ 0 k s).length ≤ k → ∀ p ∈ Lib.splitB ⟨#[c]⟩ 0 k s, Free c p)
  | 0, s => ⟨by simp [Lib.splitB], rfl, by simp [Lib.splitB], fun h => by simp [Lib.splitB] at h⟩
  | k + 1, s => by
    obtain ⟨f1, f2, f3, f4⟩ := splitB_facts c k (s.extract ((Lib.indexB s ⟨#[c]⟩).toNat + (⟨#[c]⟩ : ByteArray).size) s.size)
    unfold Lib.splitB
    by_cases h : Lib.indexB s ⟨#[c]⟩ = -1
    · rw [h]
      simp only [beq_self_eq_true, if_true]
      exact ⟨by simp, rfl, by simp, fun _ p hp => by rw [List.mem_singleton.1 hp]; exact (free_iff c s).2 (by rw [← indexB_atB]; exact h)⟩
    · have hb : (Lib.indexB s ⟨#[c]⟩ == -1) = false := by rw [beq_eq_false_iff_ne]; exact h
      rw [hb]
      simp only [Bool.false_eq_true, if_false]
      have hge := atB_ge c s
      rw [indexB_atB] at h f1 f2 f3 f4 ⊢
      obtain ⟨m, hm⟩ : ∃ m : Nat, atB c s = m := ⟨(atB c s).toNat, by omega⟩
      have h1 := headB_at c s m hm
      have h2 := restB_at c s m hm
      rw [hm] at f1 f2 f3 f4 ⊢
      simp only [Int.toNat_natCast, one_size, Nat.add_zero] at f1 f2 f3 f4 ⊢
      rw [← h2] at f1 f2 f3 f4 ⊢
      rw [← h1]
      refine ⟨by simp, ?_, by simp; omega, fun hl p hp => ?_⟩
      · rw [joinB_cons c _ _ f1, f2]
        exact (cutB_join c s (by omega)).symm
      · rcases List.mem_cons.1 hp with h5 | h5
        · rw [h5]; exact headB_free c s
        · exact f4 (by simp at hl; omega) p h5
theorem free_empty (c : UInt8) (p : ByteArray) (h : p.size = 0) : Free c p := by
  have h2 : p.data.toList = [] := List.eq_nil_of_length_eq_zero (by simpa using h)
  unfold Free
  rw [h2]
  simp

set_option maxHeartbeats 1000000 in
theorem isplit_any (w : World) (hM : MaxC w) (s : ByteArray) (c : UInt8) (n : Nat) (hs : s.size ≤ 1048576) (hn : 1 ≤ n) (hn2 : n ≤ 100) :
    Calls Tryz.prog 45 #[.string s, .string ⟨#[c]⟩, .int .i64 (n : Int)] w fun e w' => (∃ (L : List ByteArray) (cp : Nat), e = .returned (.slice (some ⟨w.heap.size, 0, none⟩) L.length cp) ∧ (∀ j (h : j < L.length), w'.cell? ⟨w.heap.size, j, none⟩ = some (.string L[j])) ∧ L ≠ [] ∧ joinB c L = s ∧ L.length ≤ n ∧ (L.length < n → ∀ p ∈ L, Free c p) ∧ L.length ≤ cp) ∧ w.grownBy w' none := by
  obtain ⟨m, hm⟩ := hM
  refine (Any.strings_SplitN { Tryz.laysSplitN with } (by kernel_rfl) s ⟨#[c]⟩ n m w (by omega) hm (by rw [one_size]; omega) hn (by omega)).mono ?_
  rintro e w' ⟨rfl, rfl⟩
  obtain ⟨f1, f2, f3, f4⟩ := splitB_facts c (min n (s.size + 1) - 1) s
  refine ⟨⟨_, _, rfl, fun j h => ?_, f1, f2, by omega, fun hl => ?_, by omega⟩, World.grownBy_alloc _ _ _⟩
  · refine (Blk.new w 9 (((Lib.splitB ⟨#[c]⟩ 0 (min n (s.size + 1) - 1) s).map Value.string) ++ List.replicate (min n (s.size + 1) - (Lib.splitB ⟨#[c]⟩ 0 (min n (s.size + 1) - 1) s).length) (Value.string ByteArray.empty))).cell ?_
    rw [List.getElem?_append_left (by simpa using h)]
    simp [h]
  · by_cases h5 : (Lib.splitB ⟨#[c]⟩ 0 (min n (s.size + 1) - 1) s).length ≤ min n (s.size + 1) - 1
    · exact f4 h5
    · intro p hp
      have h6 := joinB_len c _ p hp
      rw [f2] at h6
      exact free_empty c p (by omega)
end Go.Proofs.YtecekbhkombnnaaGreatDoor
