import Derived.Test.YtdelijobaebfnaaDoorXS1
namespace Go.Proofs.YtdelijobaebfnaaDoor
open Go.RowKit

theorem info50 : (Tryd.prog.info? 89).map (fun i => (i.zero, i.size, i.bytes)) = some (some (.int .u32 0), 1, 4) := by kernel_rfl

/-- a word of four bytes -/
def wordR (x0 x1 x2 x3 : Int) : Int :=
  bits .or .u32 (bits .or .u32 (bits .or .u32 (IntKind.u32.wrap (IntKind.u32.wrap x0 * 16777216)) (IntKind.u32.wrap (IntKind.u32.wrap x1 * 65536))) (IntKind.u32.wrap (IntKind.u32.wrap x2 * 256))) (IntKind.u32.wrap x3)
/-- the word at a place of a block of bytes -/
def wordS (B : List Int) (k : Nat) : Int := wordR (B.getD (4 * k) 0) (B.getD (4 * k + 1) 0) (B.getD (4 * k + 2) 0) (B.getD (4 * k + 3) 0)
def words16 (B : List Int) : Nat → List Int
  | 0 => []
  | k + 1 => words16 B k ++ [wordS B k]

theorem turn_any (x k : Int) (w : World) (h1 : 1 ≤ k) (h2 : k ≤ 31) : Calls Tryd.prog 83 #[.int .u32 x, .int .i64 k] w fun e w' => e = .returned (.int .u32 (ror x k.toNat)) ∧ ∃ n, w' = w.drewN n := by
  have := turn_nat x w k.toNat (by omega) (by omega)
  rw [show ((k.toNat : Nat) : Int) = k from by omega] at this
  exact this

def extS (x16 a x7 c : Int) : Int := IntKind.u32.wrap (IntKind.u32.wrap (IntKind.u32.wrap (x16 + a) + x7) + c)
/-- the words of all rounds, as far as the place 16 + t -/
def schedTo (L : List Int) : Nat → List Int
  | 0 => L
  | t + 1 => schedTo L t ++ [extS ((schedTo L t).getD t 0) (sg0 ((schedTo L t).getD (t + 1) 0)) ((schedTo L t).getD (t + 9) 0) (sg1 ((schedTo L t).getD (t + 14) 0))]
theorem schedTo_len (L : List Int) : ∀ t, (schedTo L t).length = L.length + t
  | 0 => rfl
  | t + 1 => by rw [schedTo, List.length_append, schedTo_len L t]; rfl

theorem words16_len (B : List Int) : ∀ k, (words16 B k).length = k
  | 0 => rfl
  | k + 1 => by rw [words16, List.length_append, words16_len B k]; rfl

set_option maxRecDepth 100000 in
set_option maxHeartbeats 1000000 in
theorem words_walk (w : World) (B : List Int) (g o cap : Nat) (hc : ∀ j, j < 64 → w.cell? ⟨g, o + j, none⟩ = some (.int .u8 (B.getD j 0))) :
    Calls Tryd.prog 81 #[.slice (some ⟨g, o, none⟩) 64 cap] w fun e w' => ∃ v, e = .returned v ∧ Row w' w.heap.size v (u32s (schedTo (words16 B 16) 48)) ∧ w.grownBy w' none := by
  have HC := Lib.hid hc
  have hgb : g < w.heap.size := World.block_lt_of_cell? w _ (hc 0 (by omega))
  clear hc
  obtain ⟨i5, hi5, hz0, hz1, hz2⟩ := info_parts info50
  have hmk : ∀ W : World, (Instr.makeSlice 125 (.int .i64 0) (.int .i64 64)).run Tryd.prog W = .ok (.slice (some ⟨W.heap.size, 0, none⟩) 0 64) (W.alloc (.cells (u32s (List.replicate 64 0)).toArray 89)) := fun _ => by kernel_rfl
  go_enter Tryd.func81, Tryd.ntmps81
  go_wp2
  go_loopw [3, 4] (fun v i wr => ∃ k : Nat, k ≤ 16 ∧ i = .int .i64 k ∧ Row wr w.heap.size v (u32s (words16 B k)) ∧ w.grownBy wr none) (fun _ i _ => 16 - (intOf i).toNat)
  case atStart => exact ⟨0, Nat.zero_le _, rfl, Row.made w 89 _ 64 (by simp), grown_alloc (grown_refl _ _) _⟩
  case round =>
    obtain ⟨k, hk, rfl, hrow, hg⟩ := hrel
    have HROW := Lib.hid hrow
    have HG := Lib.hid hg
    have hws := hg.size
    have HWL := Lib.hid (show (u32s (words16 B k)).length = k from by simp [words16_len])
    clear hrow hg
    by_cases hlt : k < 16
    · obtain ⟨p, hp⟩ : ∃ p, p = 4 * k := ⟨_, rfl⟩
      obtain ⟨p1, hp1⟩ : ∃ p1, p1 = p + 1 := ⟨_, rfl⟩
      obtain ⟨p2, hp2⟩ : ∃ p2, p2 = p + 2 := ⟨_, rfl⟩
      obtain ⟨p3, hp3⟩ : ∃ p3, p3 = p + 3 := ⟨_, rfl⟩
      have e0 : IntKind.i64.wrap (4 * (k : Int)) = (p : Int) := by rw [IntKind.wrap_i64]; omega
      have e1 : IntKind.i64.wrap ((p : Int) + 1) = (p1 : Int) := by rw [IntKind.wrap_i64]; omega
      have e2 : IntKind.i64.wrap ((p : Int) + 2) = (p2 : Int) := by rw [IntKind.wrap_i64]; omega
      have e3 : IntKind.i64.wrap ((p : Int) + 3) = (p3 : Int) := by rw [IntKind.wrap_i64]; omega
      have d0 := HG.out.cell (HC.out p (by omega)) (by simp)
      have d1 := HG.out.cell (HC.out p1 (by omega)) (by simp)
      have d2 := HG.out.cell (HC.out p2 (by omega)) (by simp)
      have d3 := HG.out.cell (HC.out p3 (by omega)) (by simp)
      have b0 : (p : Int) < 64 := by omega
      have b1 : (p1 : Int) < 64 := by omega
      have b2 : (p2 : Int) < 64 := by omega
      have b3 : (p3 : Int) < 64 := by omega
      obtain ⟨x0, hx0⟩ : ∃ x, x = B.getD p 0 := ⟨_, rfl⟩
      obtain ⟨x1, hx1⟩ : ∃ x, x = B.getD p1 0 := ⟨_, rfl⟩
      obtain ⟨x2, hx2⟩ : ∃ x, x = B.getD p2 0 := ⟨_, rfl⟩
      obtain ⟨x3, hx3⟩ : ∃ x, x = B.getD p3 0 := ⟨_, rfl⟩
      rw [← hx0] at d0
      rw [← hx1] at d1
      rw [← hx2] at d2
      rw [← hx3] at d3
      have HP := Lib.hid (And.intro hp (And.intro hp1 (And.intro hp2 hp3)))
      have HX := Lib.hid (And.intro hx0 (And.intro hx1 (And.intro hx2 hx3)))
      clear hp hp1 hp2 hp3 hx0 hx1 hx2 hx3
      go_wp2
      go_region_held3 (fun w' => w'.cell? ⟨g, o + p, none⟩ = some (.int .u8 x0) ∧ w'.cell? ⟨g, o + p1, none⟩ = some (.int .u8 x1) ∧ w'.cell? ⟨g, o + p2, none⟩ = some (.int .u8 x2) ∧ w'.cell? ⟨g, o + p3, none⟩ = some (.int .u8 x3)) (go_keep) ((refine step_append_row (by rfl) _ _ 125 (by rfl) 89 i5 (.int .u32 0) 4 Tryd.underlying125 hi5 hz0 hz1 hz2 rfl w.heap.size _ (u32s (words16 B k)) (by rfl) (HROW.out.alloc _) ⟨wr.heap.size, 0, none⟩ 1 1 (u32s [wordR x0 x1 x2 x3]) (by rfl) rfl (news_new wr 89 (u32s [wordR x0 x1 x2 x3])) (u32s_one _) (by rw [HWL.out]; unfold maxLen; omega) (by rw [HWL.out]; omega) (by simp; omega) ?_; intro v1 w1 hrow1 hg1; have c0 := row_keep HROW.out hg1.out hgb d0; have c1 := row_keep HROW.out hg1.out hgb d1; have c2 := row_keep HROW.out hg1.out hgb d2; have c3 := row_keep HROW.out hg1.out hgb d3))
      have HR1 := hrow1
      have HG1 := hg1
      clear hrow1 hg1 c0 c1 c2 c3 d0 d1 d2 d3
      go_wp2
      go_roundw
      case rel =>
        refine ⟨k + 1, by omega, by go_num, ?_, grown_own (grown_drew (grown_alloc HG.out _)) HG1.out (fun q hq => (HROW.out.lt q hq).1)⟩
        obtain ⟨hp, hp1, hp2, hp3⟩ := HP.out
        obtain ⟨hx0, hx1, hx2, hx3⟩ := HX.out
        have := HR1.out
        rw [← List.map_append, hx0, hx1, hx2, hx3, hp1, hp2, hp3, hp] at this
        exact this
      case measure => simp [intOf]; omega
    · go_wp2
      obtain ⟨L, hL⟩ : ∃ L, L = words16 B k := ⟨_, rfl⟩
      have hLl : L.length = 16 := by rw [hL, words16_len B k]; omega
      rw [← hL] at HROW
      have HL := Lib.hid hL
      clear hL
      go_loopw [3, 5] (fun v i wr => ∃ t : Nat, t ≤ 48 ∧ i = .int .i64 ((16 + t : Nat) : Int) ∧ Row wr w.heap.size v (u32s (schedTo L t)) ∧ w.grownBy wr none) (fun _ i _ => 64 - (intOf i).toNat)
      case atStart => exact ⟨0, Nat.zero_le _, rfl, HROW.out, HG.out⟩
      case round =>
        obtain ⟨t, ht, rfl, hrow, hgr⟩ := hrel
        have hsl := schedTo_len L t
        obtain ⟨T, hT⟩ : ∃ T, T = schedTo L t := ⟨_, rfl⟩
        rw [← hT] at hrow hsl
        have hTl : (u32s T).length = 16 + t := by rw [List.length_map, hsl, hLl]
        have hrow' := hrow
        rcases hrow' with ⟨_, h0⟩ | ⟨g2, cap2, rfl, hb2, hl2, hn2, hc2, _⟩
        · rw [h0] at hTl; simp at hTl; omega
        rw [hTl] at hrow ⊢
        have cell : ∀ j, j < 16 + t → wr.cell? ⟨g2, j, none⟩ = some (.int .u32 (T.getD j 0)) := fun j hj => by rw [hc2 j (by omega)]; exact u32s_get (by omega)
        have hws2 := hgr.size
        have HROW2 := Lib.hid hrow
        have HGR := Lib.hid hgr
        have HCELL := Lib.hid cell
        have HT2 := Lib.hid hT
        have HTL := Lib.hid hTl
        clear hrow hgr cell hT hc2 hn2 hTl
        obtain ⟨i, hi⟩ : ∃ i, i = 16 + t := ⟨_, rfl⟩
        rw [← hi] at HROW2 HCELL HTL ⊢
        have hi16 : 16 ≤ i := by omega
        by_cases hlt2 : i < 64
        · obtain ⟨q15, h15⟩ : ∃ q, q = i - 15 := ⟨_, rfl⟩
          obtain ⟨q2, h2⟩ : ∃ q, q = i - 2 := ⟨_, rfl⟩
          obtain ⟨q16, h16⟩ : ∃ q, q = i - 16 := ⟨_, rfl⟩
          obtain ⟨q7, h7⟩ : ∃ q, q = i - 7 := ⟨_, rfl⟩
          have z15 : (i : Int) - 15 = (q15 : Int) := by omega
          have z2 : (i : Int) - 2 = (q2 : Int) := by omega
          have z16 : IntKind.i64.wrap ((i : Int) - 16) = (q16 : Int) := by rw [IntKind.wrap_i64]; omega
          have z7 : IntKind.i64.wrap ((i : Int) - 7) = (q7 : Int) := by rw [IntKind.wrap_i64]; omega
          have y15 : (q15 : Int) < (i : Int) := by omega
          have y2 : (q2 : Int) < (i : Int) := by omega
          have y16 : (q16 : Int) < (i : Int) := by omega
          have y7 : (q7 : Int) < (i : Int) := by omega
          have c15 := HCELL.out q15 (by omega)
          have c2 := HCELL.out q2 (by omega)
          have c16 := HCELL.out q16 (by omega)
          have c7 := HCELL.out q7 (by omega)
          obtain ⟨x15, hx15⟩ : ∃ x, x = T.getD q15 0 := ⟨_, rfl⟩
          obtain ⟨x2, hx2⟩ : ∃ x, x = T.getD q2 0 := ⟨_, rfl⟩
          obtain ⟨x16, hx16⟩ : ∃ x, x = T.getD q16 0 := ⟨_, rfl⟩
          obtain ⟨x7, hx7⟩ : ∃ x, x = T.getD q7 0 := ⟨_, rfl⟩
          rw [← hx15] at c15
          rw [← hx2] at c2
          rw [← hx16] at c16
          rw [← hx7] at c7
          have HQ := Lib.hid (And.intro h15 (And.intro h2 (And.intro h16 h7)))
          have HX := Lib.hid (And.intro hx15 (And.intro hx2 (And.intro hx16 hx7)))
          have HI := Lib.hid hi
          have HSL := Lib.hid hsl
          clear hi hsl h15 h2 h16 h7 hx15 hx2 hx16 hx7
          go_wp2_with (go_at_call 83; refine (turn_any _ _ _ (by omega) (by omega)).mono ?_; rintro e w' ⟨rfl, nn, rfl⟩)
          have HR3 := Lib.hid (show Row wr w.heap.size (.slice (some ⟨g2, 0, none⟩) i cap2) (u32s T) from HROW2.out)
          go_region_law (refine step_append_row (by rfl) _ _ 125 (by rfl) 89 i5 (.int .u32 0) 4 Tryd.underlying125 hi5 hz0 hz1 hz2 rfl w.heap.size (.slice (some ⟨g2, 0, none⟩) i cap2) (u32s T) (by rfl) (by exact Row.alloc (Row.drewN HR3.out _) _) ⟨wr.heap.size, 0, none⟩ 1 1 (u32s [extS x16 (sg0 x15) x7 (sg1 x2)]) (by rfl) rfl (by exact news_new (wr.drewN _) 89 (u32s [extS x16 (sg0 x15) x7 (sg1 x2)])) (u32s_one _) (by rw [HTL.out]; unfold maxLen; omega) (by rw [HTL.out]; omega) (by simp; omega) ?_; intro v1 w1 hrow1 hg1)
          all_goals
            have HR4 := hrow1
            have HG4 := hg1
            clear hrow1 hg1 c15 c2 c16 c7 z15 z2 z16 z7
            go_wp2
            go_roundw
            case rel =>
              refine ⟨t + 1, by have := HI.out; omega, by have := HI.out; congr 1; omega, ?_, grown_own (grown_alloc (grown_drewN HGR.out _) _) HG4.out (fun q hq => (HROW2.out.lt q hq).1)⟩
              obtain ⟨h15, h2, h16, h7⟩ := HQ.out
              obtain ⟨hx15, hx2, hx16, hx7⟩ := HX.out
              have hi := HI.out
              have := HR4.out
              rw [← List.map_append, hx15, hx2, hx16, hx7, h15, h2, h16, h7, hi, show 16 + t - 15 = t + 1 from by omega, show 16 + t - 2 = t + 14 from by omega, show 16 + t - 16 = t from by omega, show 16 + t - 7 = t + 9 from by omega, HT2.out] at this
              exact this
            case measure => simp [intOf]; omega
        · obtain rfl : t = 48 := by omega
          obtain rfl : i = 64 := by omega
          clear hi
          go_wp2
          go_ret
          refine ⟨_, rfl, ?_, HGR.out⟩
          have := HROW2.out
          rw [HT2.out, HL.out, show k = 16 from by omega] at this
          exact this

end Go.Proofs.YtdelijobaebfnaaDoor
