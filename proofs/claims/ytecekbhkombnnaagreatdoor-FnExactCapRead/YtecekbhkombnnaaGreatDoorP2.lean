/- Lists of texts, marked, and asked whether they hold their marks. -/
import Derived.Test.YtecekbhkombnnaaGreatDoorP1
import Derived.Test.YtecekbhkombnnaaGreatDoorB0
namespace Go.Proofs.YtecekbhkombnnaaGreatDoor
open Go.RowKit

/-- the marks from a number on, so many -/
def marks (k n : Nat) : List ByteArray := (List.range n).map fun i => MT (k + i)
theorem marks_len (k n : Nat) : (marks k n).length = n := by simp [marks]
theorem marks_get (k n j : Nat) (h : j < n) : (strs (marks k n))[j]? = some (.string (MT (k + j))) := by simp [strs, marks, h]
theorem Row.set {w : World} {base : Nat} {g len cap : Nat} {xs : List Value} (h : Row w base (.slice (some ⟨g, 0, none⟩) len cap) xs) (j : Nat) (x : Value) : Row (w.setCell ⟨g, j, none⟩ x) base (.slice (some ⟨g, 0, none⟩) len cap) (xs.set j x) := by
  rcases h with ⟨h, _⟩ | ⟨g', cap', he, hb, hl, hn, hc, hf⟩
  · cases h
  · cases he
    refine .inr ⟨g, cap, by simp, hb, by simpa [World.setCell] using hl, by simpa using hn, fun i hi => ?_, fun i hi => ?_⟩
    · have hi' : i < xs.length := by simpa using hi
      by_cases e : i = j
      · subst e
        rw [List.getElem?_set_self hi']
        have h1 := (hf i (by omega)).1
        obtain ⟨u, hu⟩ := Option.isSome_iff_exists.1 h1
        exact World.cell?_setCell_same w ⟨g, i, none⟩ x hu
      · rw [List.getElem?_set_ne (fun h => e h.symm), World.cell?_setCell_other w ⟨g, j, none⟩ ⟨g, i, none⟩ x (fun h => e (by cases h; rfl))]
        exact hc i hi'
    · refine ⟨?_, ?_⟩
      · exact World.isSome_setCells g [x] j w ⟨g, i, none⟩ (hf i hi).1
      · rw [World.frozen?_setCell]; exact (hf i hi).2

theorem Row.open_strs {w : World} {base : Nat} {v : Value} {ss : List ByteArray} (h : Row w base v (strs ss)) : (v = .slice none 0 0 ∧ ss = []) ∨ ∃ g cap, v = .slice (some ⟨g, 0, none⟩) ss.length cap ∧ base ≤ g ∧ g < w.heap.size ∧ (∀ j (hj : j < ss.length), w.cell? ⟨g, j, none⟩ = some (.string ss[j])) ∧ ∀ j, j < ss.length → w.frozen? ⟨g, j, none⟩ = false := by
  rcases h with ⟨rfl, h⟩ | ⟨g, cap, rfl, hb, hl, hn, hc, hf⟩
  · exact .inl ⟨rfl, by simpa [strs] using h⟩
  · rw [strs_len] at *
    refine .inr ⟨g, cap, rfl, hb, hl, fun j hj => ?_, fun j hj => (hf j (by omega)).2⟩
    rw [hc j hj]
    simp [strs, hj]

theorem Row.at_strs {w : World} {base g len cap : Nat} {L : List ByteArray} (h : Row w base (.slice (some ⟨g, 0, none⟩) len cap) (strs L)) (j : Nat) (hj : j < L.length) : g < w.heap.size ∧ (∃ x, w.cell? ⟨g, j, none⟩ = some (.string x)) ∧ w.frozen? ⟨g, j, none⟩ = false := by
  rcases h.open_strs with ⟨h0, -⟩ | ⟨g', cap', he, -, hgl, hcs, hfz⟩
  · cases h0
  · simp only [Value.slice.injEq, Option.some.injEq, Addr.mk.injEq] at he
    obtain ⟨⟨rfl, -, -⟩, -, -⟩ := he
    exact ⟨hgl, ⟨_, hcs j hj⟩, hfz j hj⟩
/-- marked so far -/
def markd (k : Nat) (ss : List ByteArray) (j : Nat) : List ByteArray := marks k j ++ ss.drop j
theorem markd_len (k : Nat) (ss : List ByteArray) (j : Nat) (h : j ≤ ss.length) : (markd k ss j).length = ss.length := by simp [markd, marks_len]; omega
theorem markd_step (k : Nat) (ss : List ByteArray) (j : Nat) (h : j < ss.length) : (strs (markd k ss j)).set j (.string (MT (k + j))) = strs (markd k ss (j + 1)) := by
  have hd : ss.drop j = ss[j] :: ss.drop (j + 1) := List.drop_eq_getElem_cons h
  unfold markd strs
  rw [hd, List.map_append, List.map_cons, List.set_append_right _ _ (by simp [marks_len])]
  simp [marks, List.range_succ]

set_option maxRecDepth 100000 in
set_option maxHeartbeats 1000000 in
theorem markS_any (w : World) (base : Nat) (v : Value) (ss : List ByteArray) (h : Row w base v (strs ss)) (hn : ss.length ≤ 1048576) (k : Nat) (hk : 0 < k) (hkb : k ≤ 549755813888) :
    Calls Tryz.prog 31 #[v, .int .i64 (k : Int)] w fun e w' => e = .returned (.int .i64 ((k + ss.length : Nat) : Int)) ∧ Row w' base v (strs (marks k ss.length)) ∧ w.grownBy w' v.ownBlock := by
  rcases h.open_strs with ⟨rfl, rfl⟩ | ⟨g, cap, rfl, hbg, hgl, hcs, hfz⟩
  · clear h
    go_enter Tryz.func31, Tryz.ntmps31
    go_wp2
    go_loopw [1, 5] (fun kv i wr => kv = .int .i64 (k : Int) ∧ i = .int .i64 0 ∧ wr = w) (fun _ _ _ => 0)
    case atStart => exact ⟨rfl, rfl, rfl⟩
    case round =>
      obtain ⟨rfl, rfl, rfl⟩ := hrel
      go_wp2
      go_ret
      exact ⟨rfl, Row.nil _ _, grown_refl _ _⟩
  · have HR0 := Lib.hid h
    clear h hcs hfz
    go_enter Tryz.func31, Tryz.ntmps31
    go_wp2
    go_loopw [1, 5] (fun kv i wr => ∃ j : Nat, j ≤ ss.length ∧ kv = .int .i64 ((k + j : Nat) : Int) ∧ i = .int .i64 (j : Int) ∧ Hid (Row wr base (.slice (some ⟨g, 0, none⟩) ss.length cap) (strs (markd k ss j))) ∧ w.grownBy wr (some g)) (fun _ i _ => ss.length - (intOf i).toNat)
    case atStart => exact ⟨0, Nat.zero_le _, by simp, rfl, Lib.hid (by have := HR0.out; simpa [markd, marks] using this), grown_refl _ _⟩
    case round =>
      obtain ⟨j, hj, rfl, rfl, HR, hg⟩ := hrel
      have HG := Lib.hid hg
      clear hg
      by_cases hlt : j < ss.length
      · have hml := markd_len k ss j hj
        obtain ⟨hgl', ⟨x0, hcx⟩, hfx⟩ := HR.out.at_strs j (by rw [hml]; exact hlt)
        obtain ⟨K, hK⟩ : ∃ K, K = k + j := ⟨_, rfl⟩
        have HMK := Lib.hid (markText_any wr K (by omega) (by omega))
        have HST := Lib.hid (show (strs (markd k ss j)).set j (.string (MT K)) = strs (markd k ss (j + 1)) from by rw [hK]; exact markd_step k ss j hlt)
        have HC := Lib.hid hcx
        have HF := Lib.hid hfx
        have hjI : (j : Int) < ss.length := by omega
        have hK1 : K + 1 = k + (j + 1) := by omega
        have hKb : K ≤ 1099511627776 := by omega
        rw [← hK]
        clear hcx hfx hml hK
        go_wp2_with fail
        refine HMK.out.mono ?_
        rintro e w1 ⟨rfl, hg1⟩
        have HG1 := Lib.hid hg1
        have c1 := hg1.cell HC.out (by simp)
        have f1 : w1.frozen? ⟨g, j, none⟩ = false := by rw [World.frozen?_of_block (w := wr) (a := ⟨g, j, none⟩) (hg1.block g hgl' (by simp))]; exact HF.out
        have HR1 := Lib.hid (HR.out.kept hg1 (by simp))
        clear hg1 HMK
        generalize MT K = X at HST ⊢
        go_wp2
        go_roundw
        case rel =>
          refine ⟨j + 1, by omega, ?_, by go_num, Lib.hid ?_, ?_⟩
          · rw [← hK1]
            go_num
          · rw [← HST.out]
            exact HR1.out.set j _
          · exact grown_set (grown_trans HG.out (grown_widen HG1.out)) j _
        case measure => simp [intOf]; omega
      · obtain rfl : j = ss.length := by omega
        have HE := Lib.hid (show strs (markd k ss ss.length) = strs (marks k ss.length) from by simp [markd])
        go_wp2
        go_ret
        refine ⟨rfl, by rw [← HE.out]; exact HR.out, HG.out⟩

set_option maxRecDepth 100000 in
set_option maxHeartbeats 1000000 in
theorem heldS_any (w : World) (base : Nat) (v : Value) (n : Nat) (k : Nat) (h : Row w base v (strs (marks k n))) (hn : n ≤ 1048576) (hk : 0 < k) (hkb : k ≤ 549755813888) :
    Calls Tryz.prog 32 #[v, .int .i64 (k : Int)] w fun e w' => e = .returned (.int .i64 ((k + n : Nat) : Int)) ∧ w.grownBy w' none := by
  rcases h.open_strs with ⟨rfl, h0⟩ | ⟨g, cap, rfl, hbg, hgl, hcs, hfz⟩
  · have hn0 : n = 0 := by have := marks_len k n; rw [h0] at this; exact this.symm
    subst hn0
    clear h h0
    go_enter Tryz.func32, Tryz.ntmps32
    go_wp2
    go_loopw [1, 5] (fun kv i wr => kv = .int .i64 (k : Int) ∧ i = .int .i64 0 ∧ wr = w) (fun _ _ _ => 0)
    case atStart => exact ⟨rfl, rfl, rfl⟩
    case round =>
      obtain ⟨rfl, rfl, rfl⟩ := hrel
      go_wp2
      go_ret
      exact ⟨rfl, grown_refl _ _⟩
  · have HCS := Lib.hid (show ∀ j, j < n → w.cell? ⟨g, j, none⟩ = some (.string (MT (k + j))) from fun j hj => by
      rw [hcs j (by rw [marks_len]; exact hj)]
      simp [marks])
    rw [marks_len]
    clear h hcs hfz
    go_enter Tryz.func32, Tryz.ntmps32
    go_wp2
    go_loopw [1, 5] (fun kv i wr => ∃ j : Nat, j ≤ n ∧ kv = .int .i64 ((k + j : Nat) : Int) ∧ i = .int .i64 (j : Int) ∧ w.grownBy wr none) (fun _ i _ => n - (intOf i).toNat)
    case atStart => exact ⟨0, Nat.zero_le _, by simp, rfl, grown_refl _ _⟩
    case round =>
      obtain ⟨j, hj, rfl, rfl, hg⟩ := hrel
      have HG := Lib.hid hg
      by_cases hlt : j < n
      · obtain ⟨K, hK⟩ : ∃ K, K = k + j := ⟨_, rfl⟩
        have c0 := hg.cell (HCS.out j hlt) (by simp)
        rw [← hK] at c0
        have HC := Lib.hid c0
        have HMK := Lib.hid (fun (W : World) (hW : W.cell? ⟨g, j, none⟩ = some (.string (MT K)) ∧ w.grownBy W none) => (markText_any W K (by omega) (by omega)).mono (R' := fun e w' => e = .returned (.string (MT K)) ∧ (w'.cell? ⟨g, j, none⟩ = some (.string (MT K)) ∧ w.grownBy w' none)) (fun e w' q => ⟨q.1, q.2.cell hW.1 (by simp), grown_trans hW.2 q.2⟩))
        have hjI : (j : Int) < n := by omega
        have hK1 : K + 1 = k + (j + 1) := by omega
        have hKb : K ≤ 1099511627776 := by omega
        rw [← hK]
        clear c0 hg hK
        generalize MT K = X at HC HMK
        go_wp2
        go_region_held3 (fun w' => w'.cell? ⟨g, j, none⟩ = some (.string X) ∧ w.grownBy w' none) (first | assumption | exact ⟨HC.out, grown_drew HG.out⟩)
          (first | (go_at_call 63; refine (HMK.out _ (by assumption)).mono ?_; rintro e w1 ⟨rfl, hS1⟩; have HG1 := Lib.hid hS1.2))
        all_goals
          go_wp2
          go_roundw
          case rel =>
            refine ⟨j + 1, by omega, ?_, by go_num, HG1.out⟩
            rw [← hK1]
            go_num
          case measure => simp [intOf]; omega
      · obtain rfl : j = n := by omega
        clear hg
        go_wp2
        go_ret
        exact ⟨rfl, HG.out⟩
end Go.Proofs.YtecekbhkombnnaaGreatDoor
