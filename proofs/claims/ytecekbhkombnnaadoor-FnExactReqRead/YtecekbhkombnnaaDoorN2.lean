/- Texts of requests, by the document and by the program. -/
import Derived.Test.YtecekbhkombnnaaDoorN1
import Derived.Laws.RangeAny
import Derived.Lib.OthersKept
import Derived.Lib.TrimU
import Derived.Deep.LoopGhost
namespace Go.Proofs.YtecekbhkombnnaaDoor
open Go.RowKit

theorem empty_iff (t : ByteArray) : t.toList.isEmpty = decide (t.size = 0) := by
  rw [Bool.eq_iff_iff, List.isEmpty_iff, decide_eq_true_eq, ByteArray.toList_eq, ← List.length_eq_zero_iff, Array.length_toList]
  exact Iff.rfl

def ByteT (x : Nat) : Prop := (32 ≤ x ∧ x ≤ 126) ∨ x = 10
/-- a text that may be in a request -/
def TxtOk (t : ByteArray) : Prop := (∀ k (h : k < t.size), ByteT t[k].toNat) ∧ t.size ≤ 1200

set_option maxRecDepth 100000 in
set_option maxHeartbeats 1000000 in
theorem txtS_any (w : World) (t : ByteArray) (ht : t.size ≤ 1048576) : Calls Tryd.prog 59 #[.string t] w fun e w' => Says e (TxtOk t) ∧ w' = w := by
  go_enter Tryd.func59, Tryd.ntmps59
  go_wp2
  go_loop [3] (fun i => ∃ k : Nat, k ≤ t.size ∧ i = .int .i64 k ∧ Hid (∀ j (h : j < t.size), j < k → ByteT t[j].toNat)) (fun i => t.size - (intOf i).toNat)
  case atStart => exact ⟨0, Nat.zero_le _, rfl, Lib.hid fun j _ h => absurd h (Nat.not_lt_zero _)⟩
  case round =>
    obtain ⟨k, hk, rfl, HA⟩ := hrel
    by_cases hlt : k < t.size
    · have hkI : (k : Int) < t.size := by omega
      obtain ⟨x, hx⟩ : ∃ x : Nat, t[k].toNat = x := ⟨_, rfl⟩
      have HX := Lib.hid hx
      have HNO := Lib.hid (fun hb : ¬ ByteT x => show Says (.returned (.bool false)) (TxtOk t) from .no fun h => hb (by have := h.1 k hlt; rwa [HX.out] at this))
      have HGO := Lib.hid (fun hb : ByteT x => fun j (h : j < t.size) (hj : j < k + 1) => show ByteT t[j].toNat from by
        by_cases e : j = k
        · subst e; rw [HX.out]; exact hb
        · exact HA.out j h (by omega))
      by_cases c3 : (x : Int) = 10
      · have c3b : ((x : Int) == 10) = true := by rw [beq_iff_eq]; exact c3
        have c1 : (x : Int) < 32 := by omega
        have HB := Lib.hid (show ByteT x from .inr (by omega))
        clear c3
        go_wp2
        exact ⟨⟨k + 1, by omega, by go_num, Lib.hid (HGO.out HB.out)⟩, by simp [intOf]; omega⟩
      have c3b : ((x : Int) == 10) = false := by rw [beq_eq_false_iff_ne]; exact c3
      by_cases c1 : (x : Int) < 32
      · have HN := Lib.hid (HNO.out (fun h => by rcases h with h | h <;> omega))
        clear c3
        go_wp2
        go_ret
        exact ⟨HN.out, rfl⟩
      by_cases c2 : (126 : Int) < (x : Int)
      · have HN := Lib.hid (HNO.out (fun h => by rcases h with h | h <;> omega))
        clear c3
        go_wp2
        go_ret
        exact ⟨HN.out, rfl⟩
      have HB := Lib.hid (show ByteT x from .inl ⟨by omega, by omega⟩)
      clear c3
      go_wp2
      exact ⟨⟨k + 1, by omega, by go_num, Lib.hid (HGO.out HB.out)⟩, by simp [intOf]; omega⟩
    · obtain rfl : k = t.size := by omega
      by_cases hs : (t.size : Int) ≤ 1200
      · have HD := Lib.hid (show Says (.returned (.bool true)) (TxtOk t) from .yes ⟨fun j h => HA.out j h h, by omega⟩)
        go_wp2
        go_ret
        exact ⟨HD.out, rfl⟩
      · have HD := Lib.hid (show Says (.returned (.bool false)) (TxtOk t) from .no (fun h => by have := h.2; omega))
        go_wp2
        go_ret
        exact ⟨HD.out, rfl⟩

set_option maxRecDepth 1000000 in
set_option maxHeartbeats 2000000 in
theorem itxt_any (w : World) (t : ByteArray) (ht : t.size ≤ 1048576) : Calls Tryd.prog 65 #[.string t] w fun e w' => Says e (TxtOk t) ∧ w.grownBy w' none := by
  by_cases hs : (1200 : Int) < t.size
  · have HD := Lib.hid (show Says (.returned (.bool false)) (TxtOk t) from .no (fun h => by have := h.2; omega))
    go_enter Tryd.func65, Tryd.ntmps65
    go_wp2
    go_ret
    exact ⟨HD.out, grown_refl _ _⟩
  go_enter Tryd.func65, Tryd.ntmps65
  go_wp2
  go_loopg [] t.size (fun gf wx => ∃ pos : Nat, wx.heap[w.heap.size]? = some (.stringIter t pos) ∧ Below w.heap.size w wx ∧ Hid (∀ j (h : j < t.size), j < pos → ByteT t[j].toNat) ∧ t.size ≤ pos + gf)
  case atStart => exact ⟨0, World.iter_heap w t 0, (Below.refl _ w).alloc (Nat.le_refl _) _, Lib.hid fun j _ h => absurd h (Nat.not_lt_zero _), by omega⟩
  case round =>
    obtain ⟨pos, hit, hbw, HA, hfu⟩ := hrel
    by_cases hps : pos < t.size
    · obtain ⟨g', rfl⟩ : ∃ g', gk = g' + 1 := ⟨gk - 1, by omega⟩
      have hnx : ∀ ty, (Instr.next (.pointer (some ⟨w.heap.size, 0, none⟩)) true ty).run Tryd.prog wr = _ := fun ty => Lib.run_next_any_at wr w.heap.size t pos ty hit hps
      have hwd := Lib.width_pos t pos
      obtain ⟨R, hR⟩ : ∃ R, (Utf8.decode t pos).1 = R := ⟨_, rfl⟩
      obtain ⟨K, hK⟩ : ∃ K, (Utf8.decode t pos).2 = K := ⟨_, rfl⟩
      have HDE := Lib.hid (show ((t[pos]'hps).toNat = R ∧ K = 1) ∨ (128 ≤ R ∧ 128 ≤ (t[pos]'hps).toNat) from by
        by_cases ha : (t[pos]'hps).toNat < 128
        · have hd := decode_ascii t pos hps ha
          rw [hd] at hR hK
          exact .inl ⟨hR, hK.symm⟩
        · have hd := decode_high t pos hps (by omega)
          rw [hR] at hd
          exact .inr ⟨hd.1, by omega⟩)
      rw [hR, hK] at hnx
      rw [hK] at hwd
      have hit2 := Lib.iterAt_heap wr w.heap.size t pos (pos + K) hit
      have hbw2 := Lib.below_iterAt hbw (k := w.heap.size) (Nat.le_refl _) t (pos + K)
      obtain ⟨W, hWd⟩ : ∃ W, wr.iterAt w.heap.size t (pos + K) = W := ⟨_, rfl⟩
      rw [hWd] at hnx hit2 hbw2
      have HNO := Lib.hid (fun hb : ¬ ByteT R => show Says (.returned (.bool false)) (TxtOk t) from .no fun h => by
        have h1 := h.1 pos hps
        rcases HDE.out with ⟨h2, -⟩ | ⟨h2, h3⟩
        · rw [h2] at h1; exact hb h1
        · rcases h1 with h1 | h1 <;> omega)
      have HGO := Lib.hid (fun hb : ByteT R => show K = 1 ∧ ∀ j (h : j < t.size) (hj : j < pos + K), ByteT t[j].toNat from by
        rcases HDE.out with ⟨h2, h3⟩ | ⟨h2, h3⟩
        · refine ⟨h3, fun j h hj => ?_⟩
          by_cases e : j = pos
          · subst e; rw [h2]; exact hb
          · exact HA.out j h (by omega)
        · rcases hb with hb | hb <;> omega)
      have HG2 := Lib.hid (grown_of_below hbw2 none)
      clear HDE hR hK
      by_cases c3 : (R : Int) = 10
      · have c3b : ((R : Int) != 10) = false := by simp [c3]
        have HB := Lib.hid (show ByteT R from .inr (by omega))
        go_wp2
        go_roundg g'
        case measure => omega
        case rel => exact ⟨pos + K, hit2, hbw2, Lib.hid (HGO.out HB.out).2, by have := (HGO.out HB.out).1; omega⟩
      have c3b : ((R : Int) != 10) = true := by simp [c3]
      by_cases c1 : (R : Int) < 32
      · have HN := Lib.hid (HNO.out (fun h => by rcases h with h | h <;> omega))
        go_wp2
        go_ret
        exact ⟨HN.out, HG2.out⟩
      by_cases c2 : (126 : Int) < (R : Int)
      · have HN := Lib.hid (HNO.out (fun h => by rcases h with h | h <;> omega))
        go_wp2
        go_ret
        exact ⟨HN.out, HG2.out⟩
      have HB := Lib.hid (show ByteT R from .inl ⟨by omega, by omega⟩)
      go_wp2
      go_roundg g'
      case measure => omega
      case rel => exact ⟨pos + K, hit2, hbw2, Lib.hid (HGO.out HB.out).2, by have := (HGO.out HB.out).1; omega⟩
    · have hnx : ∀ ty, (Instr.next (.pointer (some ⟨w.heap.size, 0, none⟩)) true ty).run Tryd.prog wr = _ := fun ty => Lib.run_next_end_at wr w.heap.size t pos ty hit hps
      have HD := Lib.hid (show Says (.returned (.bool true)) (TxtOk t) from .yes ⟨fun j h => HA.out j h (by omega), by omega⟩)
      have HG2 := Lib.hid (grown_of_below hbw none)
      go_wp2
      go_ret
      exact ⟨HD.out, HG2.out⟩
end Go.Proofs.YtecekbhkombnnaaDoor
