/- Marks in a list of needs. -/
import Derived.Test.YtklkfphpoheanaaDoorT2
namespace Go.Proofs.YtklkfphpoheanaaDoor
open Go.RowKit

set_option maxRecDepth 100000 in
set_option maxHeartbeats 1000000 in
theorem markNeedS_any (w : World) (n b cap : Nat) (t : TypeId) (L : List Value) (hn : n ≤ 1048576) (hL : L.length = 2 * n) (hb : Blk w b t L) :
    Calls Tryd.prog 18 #[.slice (some ⟨b, 0, none⟩) n cap, .int .i64 1] w fun e w' => e = .returned (.int .i64 (2 * (n : Int) + 1)) ∧ w.grownBy w' (some b) := by
  have HB := Lib.hid hb
  have HL := Lib.hid hL
  clear hb hL
  go_enter Tryd.func18, Tryd.ntmps18
  go_wp2
  go_loopw [1, 5] (fun q i wr => ∃ k : Nat, k ≤ n ∧ i = .int .i64 k ∧ q = .int .i64 (2 * (k : Int) + 1) ∧ (∃ M : List Value, M.length = 2 * n ∧ Blk wr b t M) ∧ w.grownBy wr (some b)) (fun _ i _ => n - (intOf i).toNat)
  case atStart => exact ⟨0, Nat.zero_le _, rfl, rfl, ⟨L, HL.out, HB.out⟩, grown_refl _ _⟩
  case round =>
    obtain ⟨k, hk, rfl, rfl, ⟨M, hM, hbM⟩, hg⟩ := hrel
    have HG := Lib.hid hg
    have HBM := Lib.hid hbM
    have HM := Lib.hid hM
    by_cases hlt : k < n
    · have d0 : wr.cell? ⟨b, k * 2, none⟩ = some (M[k * 2]'(by omega)) := hbM.cell (List.getElem?_eq_getElem (by omega))
      have d1 : wr.cell? ⟨b, k * 2 + 1, none⟩ = some (M[k * 2 + 1]'(by omega)) := hbM.cell (List.getElem?_eq_getElem (by omega))
      generalize M[k * 2]'(by omega) = x0 at d0
      generalize M[k * 2 + 1]'(by omega) = x1 at d1
      have d2 := hbM.frozen (k * 2)
      have d3 := hbM.frozen (k * 2 + 1)
      have hkI : (k : Int) < n := by omega
      clear hM hbM hg
      go_wp2
      go_roundw
      case rel =>
        refine ⟨k + 1, by omega, by go_num, by go_num, ⟨_, ?_, (HBM.out.set _ _).set _ _⟩, grown_set (grown_set HG.out _ _) _ _⟩
        simp [HM.out]
      case measure => simp [intOf]; omega
    · obtain rfl : k = n := by omega
      clear hM hbM hg
      go_wp2
      go_ret
      exact ⟨rfl, HG.out⟩

end Go.Proofs.YtklkfphpoheanaaDoor
