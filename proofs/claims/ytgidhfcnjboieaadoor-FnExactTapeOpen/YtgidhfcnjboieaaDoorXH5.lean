import Derived.Test.YtgidhfcnjboieaaDoorXH4
import Derived.Deep.OwnRows
namespace Go.Proofs.YtgidhfcnjboieaaDoor
open Go.RowKit

theorem info5 : (Tryd.prog.info? 5).map (fun i => (i.zero, i.size, i.bytes)) = some (some (.int .u8 0), 1, 1) := by kernel_rfl

/-- a byte of the length in bits -/
def lenB (n i : Nat) : Int := (n : Int) * 8 / 2 ^ (56 - 8 * i) % 256
def fillTo (n z : Nat) : Nat → List Int
  | 0 => 128 :: List.replicate (z + 8) 0
  | k + 1 => (fillTo n z k).set (1 + z + k) (lenB n k)
theorem fillTo_len (n z : Nat) : ∀ k, (fillTo n z k).length = z + 9
  | 0 => by simp [fillTo]
  | k + 1 => by rw [fillTo, List.length_set]; exact fillTo_len n z k

set_option maxRecDepth 100000 in
set_option maxHeartbeats 1000000 in
theorem end_walk (c : Nat) (t : TypeId) (w : World) (K H m : List Int) (S B : List Int) (hH : H.length = 8) (hws : WS K H m S B)
    (hb : Blk w c t (wcells m.length S B)) (hM : m.length < 1152921504606846976)
    (hT : ∀ k, k < 64 → w.cell? ⟨5, k, none⟩ = some (.int .u32 (K.getD k 0))) (h1c : 5 ≠ c) :
    Calls Tryd.prog 106 #[.pointer (some ⟨c, 0, none⟩)] w fun e w' => e = .returned (.tuple #[]) ∧ (∃ S' B', WS K H (m ++ fillTo m.length ((119 - m.length % 64) % 64) 8) S' B' ∧ Blk w' c t (wcells (m ++ fillTo m.length ((119 - m.length % 64) % 64) 8).length S' B')) ∧ w.grownBy w' (some c) := by
  have HT := Lib.hid hT
  have HB := Lib.hid hb
  have HWS := Lib.hid hws
  obtain ⟨n, hn⟩ : ∃ n, n = m.length := ⟨_, rfl⟩
  obtain ⟨f, hf⟩ : ∃ f, f = n % 64 := ⟨_, rfl⟩
  obtain ⟨z, hz⟩ : ∃ z, z = (119 - f) % 64 := ⟨_, rfl⟩
  rw [← hn] at HB
  have hnb : n < 1152921504606846976 := by omega
  have hf64 : f < 64 := by omega
  have hz64 : z < 64 := by omega
  have hzi : (119 - (f : Int)) % 64 = (z : Int) := by omega
  have hmk := run_make_row' (P := Tryd.prog) 22 5 (.int .u8 0) 1 Tryd.underlying22 info5 rfl .i64 .i64 (z + 9) (by omega) (by omega)
  rw [show ((z + 9 : Nat) : Int) = 1 + (z : Int) + 8 from by omega] at hmk
  have hm0 : (madeCells #[Value.int .u8 0] (z + 9))[0]? = some (Value.int .u8 0) := by rw [← Array.getElem?_toList, toList_madeCells_one]; simp [List.replicate_succ]
  have HE := Lib.hid (And.intro hn (And.intro hf hz))
  have c0 : w.cell? ⟨c, 0, none⟩ = some (.int .u64 n) := HB.out.cell (j := 0) rfl
  clear hT hb hws hn hf hz
  go_enter Tryd.func106, Tryd.ntmps106
  go_wp2_with (go_at_call 121; refine (filled_blk c t _ n f (u32s S ++ u8s B) (by omega) ?_ ?_).mono ?_; exact HE.out.2.1.symm; exact HB.out; rintro e w' ⟨rfl, rfl⟩)
  have hcw := HB.out.lt
  go_loopw [17] (fun i wr => ∃ k : Nat, k ≤ 8 ∧ i = .int .i64 k ∧ Blk wr w'.heap.size 5 (u8s (fillTo n z k)) ∧ w'.grownBy wr none) (fun i _ => 8 - (intOf i).toNat)
  case atStart =>
    refine ⟨0, by omega, rfl, ?_, grown_alloc (grown_refl _ _) _⟩
    have e : ((madeCells #[Value.int .u8 0] (z + 9)).setIfInBounds 0 (Value.int .u8 128)) = (u8s (fillTo n z 0)).toArray := by
      apply Array.toList_inj.1
      rw [Array.toList_setIfInBounds, toList_madeCells_one]
      simp [fillTo, u8s, List.replicate_succ]
    rw [e]
    exact Blk.new w' 5 _
  case round =>
    obtain ⟨k, hk, rfl, hb1, hg⟩ := hrel
    have hFl := fillTo_len n z k
    obtain ⟨F, hF⟩ : ∃ F, F = fillTo n z k := ⟨_, rfl⟩
    rw [← hF] at hb1 hFl
    have HF := Lib.hid hF
    have HB1 := Lib.hid hb1
    have HG := Lib.hid hg
    clear hF hb1 hg
    by_cases hlt : k < 8
    · have d0 : wr.cell? ⟨c, 0, none⟩ = some (.int .u64 n) := HG.out.cell c0 (by simp)
      have d1 : wr.cell? ⟨w'.heap.size, 1 + z + k, none⟩ = some (.int .u8 (F.getD (1 + z + k) 0)) := HB1.out.cell (u8s_get (by omega))
      have d2 : wr.frozen? ⟨w'.heap.size, 1 + z + k, none⟩ = false := HB1.out.frozen _
      go_wp2
      go_roundw
      case rel =>
        refine ⟨k + 1, by omega, by go_num, ?_, grown_into HG.out (grown_set (grown_refl wr (some w'.heap.size)) _ _) (Nat.le_refl _)⟩
        have hF := HF.out
        subst hF
        have := HB1.out.set (1 + z + k) (.int .u8 (lenB n k))
        simpa [fillTo, u8s, List.map_set, lenB] using this
      case measure => simp [intOf]; omega
    · obtain rfl : k = 8 := by omega
      have hb2 : Blk wr c t (wcells n S B) := HB.out.kept HG.out (by simp)
      have hT2 : ∀ k, k < 64 → wr.cell? ⟨5, k, none⟩ = some (.int .u32 (K.getD k 0)) := fun k hk => HG.out.cell (HT.out k hk) (by simp)
      have HB2 := Lib.hid hb2
      have HT2 := Lib.hid hT2
      clear hb2 hT2
      have hwl := write_walk c t wr K H m S B F w'.heap.size (z + 9) (some ⟨w'.heap.size, 0, none⟩) hH HWS.out (by rw [← HE.out.1]; exact HB2.out) (by omega) (by omega) (fun _ => rfl) (fun j hj => HB1.out.cell (u8s_get hj)) (by omega) HT2.out h1c
      rw [hFl] at hwl
      have HWL := Lib.hid hwl
      clear hwl
      go_wp2_with fail
      refine HWL.out.mono ?_
      rintro e w2 ⟨rfl, ⟨S', B', hws2, hb3⟩, hg3⟩
      have HP := Lib.hid (And.intro hws2 (And.intro hb3 hg3))
      clear hws2 hb3 hg3
      go_wp2
      go_end0
      obtain ⟨hn, hf, hz⟩ := HE.out
      have hF := HF.out
      have hP := HP.out
      subst hF
      rw [hz, hf, hn] at hP
      exact ⟨rfl, ⟨S', B', hP.1, hP.2.1⟩, grown_trans (grown_widen HG.out) hP.2.2⟩

end Go.Proofs.YtgidhfcnjboieaaDoor
