/- Rows of what is seen, asked for their marks; compared; entries marked. -/
import Derived.Test.YtlnngamhjinpbaaQ8
namespace Go.Proofs.Ytlnngamhjinpbaa
open Go.RowKit

set_option maxRecDepth 100000 in
set_option maxHeartbeats 2000000 in
theorem heldSeen_any (w : World) (base : Nat) (v : Value) (n : Nat) (k : Nat) (h : RowT w base v n (strs (marks k (n * 2)))) (hn : n ≤ 1048577) (hk : 0 < k) (hkb : k ≤ 1048576) :
    Calls Try.prog 25 #[v, .int .i64 (k : Int)] w fun e w' => e = .returned (.int .i64 ((k + n * 2 : Nat) : Int)) ∧ w.grownBy w' none := by
  rcases h.open with ⟨rfl, rfl, -⟩ | ⟨g, cap, rfl, hbg, hgl, hcs, hfz⟩
  · clear h
    go_enter Try.func25, Try.ntmps25
    go_wp2
    go_loopw [1, 5] (fun kv i wr => kv = .int .i64 (k : Int) ∧ i = .int .i64 0 ∧ wr = w) (fun _ _ _ => 0)
    case atStart => exact ⟨rfl, rfl, rfl⟩
    case round =>
      obtain ⟨rfl, rfl, rfl⟩ := hrel
      go_wp2
      go_ret
      exact ⟨rfl, grown_refl _ _⟩
  · have HCS := Lib.hid (show ∀ j, j < n * 2 → w.cell? ⟨g, j, none⟩ = some (.string (MT (k + j))) from fun j hj => by
      rw [hcs j (by rw [strs_len, marks_len]; exact hj)]
      simp [marks, strs])
    clear h hcs hfz
    go_enter Try.func25, Try.ntmps25
    go_wp2
    go_loopw [1, 5] (fun kv i wr => ∃ j : Nat, j ≤ n ∧ kv = .int .i64 ((k + j * 2 : Nat) : Int) ∧ i = .int .i64 (j : Int) ∧ w.grownBy wr none) (fun _ i _ => n - (intOf i).toNat)
    case atStart => exact ⟨0, Nat.zero_le _, by simp, rfl, grown_refl _ _⟩
    case round =>
      obtain ⟨j, hj, rfl, rfl, hg⟩ := hrel
      have HG := Lib.hid hg
      by_cases hlt : j < n
      · obtain ⟨K, hK⟩ : ∃ K, K = k + j * 2 := ⟨_, rfl⟩
        have c0 := hg.cell (HCS.out (j * 2) (by omega)) (by simp)
        have c1 := HCS.out (j * 2 + 1) (by omega)
        rw [← hK] at c0
        rw [show k + (j * 2 + 1) = K + 1 from by omega] at c1
        have HC := Lib.hid c0
        have HC1 := Lib.hid c1
        have HMK := Lib.hid (fun (W : World) (hW : W.cell? ⟨g, j * 2, none⟩ = some (.string (MT K)) ∧ w.grownBy W none) => (markText_any W K (by omega) (by omega)).mono (R' := fun e w' => e = .returned (.string (MT K)) ∧ (w'.cell? ⟨g, j * 2, none⟩ = some (.string (MT K)) ∧ w.grownBy w' none)) (fun e w' q => ⟨q.1, q.2.cell hW.1 (by simp), grown_trans hW.2 q.2⟩))
        have HMK2 := Lib.hid (fun (W : World) (hW : W.cell? ⟨g, j * 2 + 1, none⟩ = some (.string (MT (K + 1))) ∧ w.grownBy W none) => show Calls Try.prog 47 #[.int .i64 ((K : Int) + 1)] W fun e w' => e = .returned (.string (MT (K + 1))) ∧ (w'.cell? ⟨g, j * 2 + 1, none⟩ = some (.string (MT (K + 1))) ∧ w.grownBy w' none) from by
          have := (markText_any W (K + 1) (by omega) (by omega)).mono (R' := fun e w' => e = .returned (.string (MT (K + 1))) ∧ (w'.cell? ⟨g, j * 2 + 1, none⟩ = some (.string (MT (K + 1))) ∧ w.grownBy w' none)) (fun e w' q => ⟨q.1, q.2.cell hW.1 (by simp), grown_trans hW.2 q.2⟩)
          rw [show ((K + 1 : Nat) : Int) = (K : Int) + 1 from by omega] at this
          exact this)
        have hjI : (j : Int) < n := by omega
        have hK1 : K + 2 = k + (j + 1) * 2 := by omega
        have hKb : K ≤ 1099511627776 := by omega
        rw [← hK]
        clear c0 c1 hg hK
        generalize MT K = X at HC HMK
        generalize MT (K + 1) = Y at HC1 HMK2
        go_wp2
        go_region_held3 (fun w' => w'.cell? ⟨g, j * 2, none⟩ = some (.string X) ∧ w.grownBy w' none) (first | assumption | exact ⟨HC.out, grown_drew HG.out⟩)
          (first | (go_at_call 47; refine (HMK.out _ (by assumption)).mono ?_; rintro e w1 ⟨rfl, hS1⟩; have HG1 := Lib.hid hS1.2))
        all_goals
          go_wp2
          go_region_held3 (fun w' => w'.cell? ⟨g, j * 2 + 1, none⟩ = some (.string Y) ∧ w.grownBy w' none) (first | assumption | exact ⟨HG1.out.cell HC1.out (by simp), grown_drew HG1.out⟩)
            (first | (go_at_call 47; refine (HMK2.out _ (by assumption)).mono ?_; rintro e w2 ⟨rfl, hS2⟩; have HG2 := Lib.hid hS2.2))
          all_goals
            go_wp2
            go_roundw
            case rel =>
              refine ⟨j + 1, by omega, ?_, by go_num, HG2.out⟩
              rw [← hK1]
              go_num
            case measure => simp [intOf]; omega
      · obtain rfl : j = n := by omega
        clear hg
        go_wp2
        go_ret
        exact ⟨rfl, HG.out⟩
theorem eqSeen1_any (w : World) (x y : ByteArray) :
    Calls Try.prog 45 #[.agg #[.string x, .string y], .agg #[.string x, .string y]] w fun e w' => e = .returned (.bool true) ∧ w.grownBy w' none := by
  have HG := Lib.hid (show w.grownBy ((w.alloc (Obj.cells #[Value.string x, .string y] 68)).alloc (Obj.cells #[Value.string x, .string y] 68)) none from grown_alloc (grown_alloc (grown_refl _ _) _) _)
  go_enter Try.func45, Try.ntmps45
  go_wp2
  go_ret
  exact ⟨rfl, HG.out⟩

theorem seenV_get (ps : List (ByteArray × ByteArray)) : ∀ j (h : j < ps.length), (seenV ps)[j * 2]? = some (.string ps[j].1) ∧ (seenV ps)[j * 2 + 1]? = some (.string ps[j].2) := by
  induction ps with
  | nil => intro j h; simp at h
  | cons p ps ih =>
    intro j h
    cases j with
    | zero => simp [seenV]
    | succ j =>
      have := ih j (by simpa using h)
      simp only [seenV]
      rw [show (j + 1) * 2 + 1 = (j * 2 + 1) + 2 from by omega, show (j + 1) * 2 = j * 2 + 2 from by omega]
      simpa using this
/-- what is seen lies behind an address -/
def SLies (w : World) (base : Nat) (ao : Option Addr) (ps : List (ByteArray × ByteArray)) : Prop := ps.length = 0 ∨ ∃ g, ao = some ⟨g, 0, none⟩ ∧ base ≤ g ∧ ∀ j (_ : j < ps.length), w.cell? ⟨g, j * 2, none⟩ = some (.string ps[j].1) ∧ w.cell? ⟨g, j * 2 + 1, none⟩ = some (.string ps[j].2)
theorem RowT.seen {w : World} {base : Nat} {v : Value} {ps : List (ByteArray × ByteArray)} (h : RowT w base v ps.length (seenV ps)) : ∃ ao cap, v = .slice ao ps.length cap ∧ SLies w base ao ps := by
  rcases h.open with ⟨rfl, h0, -⟩ | ⟨g, cap, rfl, hb, hgl, hcs, -⟩
  · exact ⟨none, 0, by rw [h0], .inl h0⟩
  · refine ⟨_, cap, rfl, .inr ⟨g, rfl, hb, fun j hj => ?_⟩⟩
    obtain ⟨g1, g2⟩ := seenV_get ps j hj
    have hl := seenV_len ps
    constructor
    · rw [hcs (j * 2) (by omega)]; rw [List.getElem?_eq_getElem (by omega)] at g1; exact g1
    · rw [hcs (j * 2 + 1) (by omega)]; rw [List.getElem?_eq_getElem (by omega)] at g2; exact g2

set_option maxRecDepth 100000 in
set_option maxHeartbeats 2000000 in
theorem eqSeen_any (W0 : World) (b1 b2 : Nat) (ps : List (ByteArray × ByteArray)) (v1 v2 : Value) (h1 : RowT W0 b1 v1 ps.length (seenV ps)) (h2 : RowT W0 b2 v2 ps.length (seenV ps)) (hn : ps.length ≤ 1048577) :
    Calls Try.prog 21 #[v1, v2] W0 fun e w' => e = .returned (.bool true) ∧ W0.grownBy w' none := by
  obtain ⟨a1, c1, rfl, l1⟩ := h1.seen
  obtain ⟨a2, c2, rfl, l2⟩ := h2.seen
  have HP := Lib.hid l1
  have HQ := Lib.hid l2
  clear h1 h2 l1 l2
  go_enter Try.func21, Try.ntmps21
  go_wp2
  go_loopw [5] (fun i wr => ∃ k : Nat, k ≤ ps.length ∧ i = .int .i64 k ∧ W0.grownBy wr none) (fun i _ => ps.length - (intOf i).toNat)
  case atStart => exact ⟨0, Nat.zero_le _, rfl, grown_refl _ _⟩
  case round =>
    obtain ⟨k, hk, rfl, hg⟩ := hrel
    have HG := Lib.hid hg
    clear hg
    by_cases hlt : k < ps.length
    · rcases HP.out with h0 | ⟨b, rfl, -, hc⟩
      · omega
      rcases HQ.out with h0 | ⟨bb, rfl, -, hc2⟩
      · omega
      have T1 := Lib.hid (hc k hlt)
      have T2 := Lib.hid (hc2 k hlt)
      have hkI : (k : Int) < ps.length := by omega
      clear hc hc2
      generalize ps[k] = p at T1 T2
      go_wp2
      refine wp_still_tail 8 (by kernel_rfl) (by kernel_rfl) (fun wx => W0.grownBy wx none) (grown_drew HG.out) ?_
      intro wx hgx
      have HGX := Lib.hid hgx
      have d0 := HGX.out.cell T1.out.1 (by simp)
      have d1 := HGX.out.cell T1.out.2 (by simp)
      have e0 := HGX.out.cell T2.out.1 (by simp)
      have e1 := HGX.out.cell T2.out.2 (by simp)
      have HCA := Lib.hid (eqSeen1_any wx p.1 p.2)
      clear hgx T1 T2
      simp only [List.take_succ_cons, List.take_zero, List.drop_succ_cons, List.drop_zero]
      repeat still_step
      refine wpStill_nil ?_
      clear d0 d1 e0 e1
      go_wp2_with fail
      refine HCA.out.mono ?_
      rintro e w1 ⟨rfl, hg1⟩
      have HG1 := Lib.hid (grown_trans HGX.out hg1)
      clear hg1 HCA
      go_wp2
      go_roundw
      case rel => exact ⟨k + 1, by omega, by go_num, HG1.out⟩
      case measure => simp [intOf]; omega
    · obtain rfl : k = ps.length := by omega
      go_wp2
      go_ret
      exact ⟨rfl, HG.out⟩
end Go.Proofs.Ytlnngamhjinpbaa
