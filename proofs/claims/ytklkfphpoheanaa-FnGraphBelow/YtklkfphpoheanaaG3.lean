/- The walk over those that one needs: impl's closure, and below. -/
import Derived.Test.YtklkfphpoheanaaG2
import Derived.Test.YtklkfphpoheanaaP1
namespace Go.Proofs.Ytklkfphpoheanaa
open Go.RowKit

theorem info66 : (Try.prog.info? 66).map (·.size) = some 1 := by kernel_rfl
theorem step_no (A : List Nat) (n f one s k : Nat) (h : ((A.getD one 0).testBit k && !(loopV A n f one s k).testBit k) = false) : loopV A n f one s (k + 1) = loopV A n f one s k := by
  rw [loopV_succ]; unfold stepV; rw [if_neg (by rw [h]; decide)]
theorem step_yes (A : List Nat) (n f one s k : Nat) (h : ((A.getD one 0).testBit k && !(loopV A n f one s k).testBit k) = true) : loopV A n f one s (k + 1) = visit A n f k (loopV A n f one s k ||| 2 ^ k) := by
  rw [loopV_succ]; unfold stepV; rw [if_pos h]

set_option maxRecDepth 100000 in
set_option maxHeartbeats 1000000 in
theorem walk_any (gb sb kb n : Nat) (A : List Nat) (hn : n ≤ 16) (hA : A.length = 16) (hAl : ∀ a ∈ A, a < 65536) (hgs : ¬ gb = sb) (hks : ¬ kb = sb) : ∀ (f : Nat) (w : World) (one s : Nat), one < 16 → s < 65536 → cnt n s < f → Blk w gb 52 (gCells n A) → Blk w sb 49 [.int .u16 (s : Int)] →
    Blk w kb 66 [.func (.func 35) #[] #[.pointer (some ⟨gb, 0, none⟩), .pointer (some ⟨sb, 0, none⟩), .pointer (some ⟨kb, 0, none⟩)]] →
    Calls Try.prog 35 #[.int .i64 (one : Int), .pointer (some ⟨gb, 0, none⟩), .pointer (some ⟨sb, 0, none⟩), .pointer (some ⟨kb, 0, none⟩)] w fun e w' => (∃ v, e = .returned v) ∧ Blk w' sb 49 [.int .u16 (visit A n f one s : Int)] ∧ w.grownBy w' (some sb) := by
  intro f
  induction f with
  | zero => intro w one s _ _ h; exact absurd h (Nat.not_lt_zero _)
  | succ f ih =>
    intro w one s h1 hs hc hbg hbs hbk
    have IH := Lib.hid ih
    have HBG := Lib.hid hbg
    have HBS := Lib.hid hbs
    have HBK := Lib.hid hbk
    obtain ⟨a, ha⟩ : ∃ a, a = A.getD one 0 := ⟨_, rfl⟩
    have ha65 : a < 65536 := by rw [ha]; exact getD_lt A hAl one
    have HAA := Lib.hid ha
    have hga : (gCells n A)[1 + one]? = some (.int .u16 (a : Int)) := by
      rw [ha, Nat.add_comm 1 one]
      simp [gCells, hA, h1]
    have HC1 := Lib.hid (hbg.cell hga)
    have c0 : w.cell? ⟨gb, 0, none⟩ = some (.int .i64 (n : Int)) := hbg.cell rfl
    have HAL := Lib.hid hAl
    clear ih hbg hbs hbk ha hga hAl
    go_enter Try.func35, Try.ntmps35
    go_wp2
    go_loopw [8] (fun i wr => ∃ k : Nat, k ≤ n ∧ i = .int .i64 k ∧ Blk wr sb 49 [.int .u16 (loopV A n f one s k : Int)] ∧ w.grownBy wr (some sb)) (fun i _ => n - (intOf i).toNat)
    case atStart => exact ⟨0, Nat.zero_le _, rfl, HBS.out, grown_refl _ _⟩
    case round =>
      obtain ⟨k, hk, rfl, hb, hg⟩ := hrel
      have HB := Lib.hid hb
      have HG := Lib.hid hg
      clear c0
      by_cases hlt : k < n
      · have hk16 : k < 16 := by omega
        have hS65 := loopV_lt A n f one k s hn (by omega) hs
        have hcl := loopV_cnt A n f one k s
        have HNO := Lib.hid (step_no A n f one s k)
        have HYES := Lib.hid (step_yes A n f one s k)
        rw [← HAA.out] at HNO HYES
        generalize loopV A n f one s k = S at *
        have d1 : wr.cell? ⟨gb, 1 + one, none⟩ = some (.int .u16 (a : Int)) := hg.cell HC1.out (by simpa using hgs)
        have d2 : wr.cell? ⟨sb, 0, none⟩ = some (.int .u16 (S : Int)) := hb.cell rfl
        have d3 := hb.frozen 0
        have d4 : wr.cell? ⟨kb, 0, none⟩ = some (.func (.func 35) #[] #[.pointer (some ⟨gb, 0, none⟩), .pointer (some ⟨sb, 0, none⟩), .pointer (some ⟨kb, 0, none⟩)]) := hg.cell (HBK.out.cell rfl) (by simpa using hks)
        have hkI : (k : Int) < n := by omega
        have h1I : (one : Int) < 16 := by omega
        clear hb hg
        cases hta : a.testBit k
        · have HN := Lib.hid (HNO.out (by rw [hta]; rfl))
          clear HNO HYES
          go_wp2_with (first | (go_at_call 26; refine (has_any _ a k ha65 hk16).mono ?_; rw [hta]; rintro e w' ⟨rfl, rfl⟩))
          refine ⟨⟨k + 1, by omega, by go_num, by rw [HN.out]; exact HB.out, HG.out⟩, by simp [intOf]; omega⟩
        · cases hts : S.testBit k
          · have HN := Lib.hid (HYES.out (by rw [hta, hts]; rfl))
            have hlt2 := cnt_lt n S k hlt hts
            have h65 := lt16 S k hS65 hk16
            clear HNO HYES
            go_wp2_with (first | (go_at_call 26; first | ((with_reducible refine (has_any _ a k ha65 hk16).mono ?_); rw [hta]; rintro e w' ⟨rfl, rfl⟩) | ((with_reducible refine (has_any _ S k hS65 hk16).mono ?_); rw [hts]; rintro e w' ⟨rfl, rfl⟩)) | (go_at_call 34; refine (with_any _ S k hS65 hk16).mono ?_; rintro e w' ⟨rfl, rfl⟩))
            refine (IH.out _ k (S ||| 2 ^ k) hk16 h65 (by omega) ((HBG.out.kept HG.out (by simpa using hgs)).kept (grown_set (grown_refl _ _) 0 _) (by simpa using hgs)) (HB.out.set 0 _) ((HBK.out.kept HG.out (by simpa using hks)).kept (grown_set (grown_refl _ _) 0 _) (by simpa using hks))).mono ?_
            rintro e w2 ⟨⟨v, rfl⟩, hb2, hg2⟩
            have HB2 := Lib.hid hb2
            have HG2 := Lib.hid (show w.grownBy w2 (some sb) from grown_trans (grown_set HG.out 0 _) hg2)
            clear hb2 hg2 d1 d2 d3 d4
            go_wp2
            refine ⟨⟨k + 1, by omega, by go_num, by rw [HN.out]; exact HB2.out, HG2.out⟩, by simp [intOf]; omega⟩
          · have HN := Lib.hid (HNO.out (by rw [hta, hts]; rfl))
            clear HNO HYES
            go_wp2_with (first | (go_at_call 26; first | ((with_reducible refine (has_any _ a k ha65 hk16).mono ?_); rw [hta]; rintro e w' ⟨rfl, rfl⟩) | ((with_reducible refine (has_any _ S k hS65 hk16).mono ?_); rw [hts]; rintro e w' ⟨rfl, rfl⟩)))
            refine ⟨⟨k + 1, by omega, by go_num, by rw [HN.out]; exact HB.out, HG.out⟩, by simp [intOf]; omega⟩
      · obtain rfl : k = n := by omega
        go_wp2
        go_end0
        exact ⟨⟨_, rfl⟩, by rw [visit_eq]; exact HB.out, HG.out⟩

set_option maxRecDepth 100000 in
set_option maxHeartbeats 1000000 in
theorem below_any (w : World) (n : Nat) (A : List Nat) (hn : n ≤ 16) (hA : A.length = 16) (hAl : ∀ a ∈ A, a < 65536) (one : Nat) (h1 : one < n) : Calls Try.prog 25 #[.agg (gCells n A).toArray, .int .i64 (one : Int)] w fun e w' => e = .returned (.int .u16 (visit A n (n + 1) one 0 : Int)) ∧ w.grownBy w' none := by
  have HB0 := Lib.hid (show Blk (((w.alloc (.cells (gCells n A).toArray 52)).alloc (.cells #[.int .u16 0] 49)).alloc (.cells #[.nilFunc] 66)) w.heap.size 52 (gCells n A) from ((Blk.new w 52 (gCells n A)).alloc _).alloc _)
  have HB1 := Lib.hid (show Blk (((w.alloc (.cells (gCells n A).toArray 52)).alloc (.cells #[.int .u16 0] 49)).alloc (.cells #[.nilFunc] 66)) (w.heap.size + 1) 49 [.int .u16 0] from by
    have := (Blk.new (w.alloc (.cells (gCells n A).toArray 52)) 49 [.int .u16 0]).alloc (.cells #[.nilFunc] 66)
    simpa using this)
  have HB2 := Lib.hid (show Blk (((w.alloc (.cells (gCells n A).toArray 52)).alloc (.cells #[.int .u16 0] 49)).alloc (.cells #[.nilFunc] 66)) (w.heap.size + 1 + 1) 66 [.nilFunc] from by
    have := Blk.new ((w.alloc (.cells (gCells n A).toArray 52)).alloc (.cells #[.int .u16 0] 49)) 66 [.nilFunc]
    simpa using this)
  have HG0 := Lib.hid (show w.grownBy (((w.alloc (.cells (gCells n A).toArray 52)).alloc (.cells #[.int .u16 0] 49)).alloc (.cells #[.nilFunc] 66)) none from grown_alloc (grown_alloc (grown_alloc (grown_refl _ _) _) _) _)
  generalize (gCells n A).toArray = C at HB0 HB1 HB2 HG0 ⊢
  have hcm := cnt_max n 0
  go_enter Try.func25, Try.ntmps25
  go_wp2_with (first | ((with_reducible refine wpList_store_cell ?_ 66 (.tmp 6) (.tmp 7) ?_ (w.heap.size + 1 + 1) (.func (.func 35) #[] #[.pointer (some ⟨w.heap.size, 0, none⟩), .pointer (some ⟨w.heap.size + 1, 0, none⟩), .pointer (some ⟨w.heap.size + 1 + 1, 0, none⟩)]) .nilFunc 66 ?_ ?_ ?_ ?_ ?_ ?_); exact rfl; exact rfl; exact HB2.out; exact info66; exact rfl; exact rfl; exact rfl; intro w3 HB3 HG3; have d0 : w3.cell? ⟨w.heap.size + 1 + 1, 0, none⟩ = some (.func (.func 35) #[] #[.pointer (some ⟨w.heap.size, 0, none⟩), .pointer (some ⟨w.heap.size + 1, 0, none⟩), .pointer (some ⟨w.heap.size + 1 + 1, 0, none⟩)]) := HB3.out.cell rfl))
  refine (walk_any w.heap.size (w.heap.size + 1) (w.heap.size + 1 + 1) n A hn hA hAl (by omega) (by omega) (n + 1) w3 one 0 (by omega) (by decide) (by omega) (HB0.out.kept HG3.out (by simp; omega)) (HB1.out.kept HG3.out (by simp)) HB3.out).mono ?_
  rintro e w4 ⟨⟨v, rfl⟩, hb4, hg4⟩
  have HG4 := Lib.hid (show w.grownBy w4 none from grown_into (grown_into HG0.out HG3.out (by omega)) hg4 (by omega))
  have d1 := hb4.cell (j := 0) rfl
  clear hb4 hg4 d0
  go_wp2
  go_ret
  exact ⟨rfl, HG4.out⟩

end Go.Proofs.Ytklkfphpoheanaa
