import Derived.Test.YtklkfphpoheanaaDoorG1
import Derived.Test.YtklkfphpoheanaaDoorB0
namespace Go.Proofs.YtklkfphpoheanaaDoor
open Go.RowKit

/-- a list of needs lies in memory, two cells each -/
def NLies (w : World) (ao : Option Addr) (E : List (Int × Int)) : Prop := E.length = 0 ∨ ∃ ab o, ao = some ⟨ab, o, none⟩ ∧ ∀ j, j < E.length → w.cell? ⟨ab, o + 2 * j, none⟩ = some (.int .i64 (E.getD j (0, 0)).1) ∧ w.cell? ⟨ab, o + 2 * j + 1, none⟩ = some (.int .i64 (E.getD j (0, 0)).2)
theorem NLies.kept {w w' : World} {ao : Option Addr} {E : List (Int × Int)} (h : NLies w ao E) (hg : w.grownBy w' none) : NLies w' ao E := by
  rcases h with h | ⟨ab, o, rfl, hc⟩
  · exact .inl h
  · exact .inr ⟨ab, o, rfl, fun j hj => ⟨hg.cell (hc j hj).1 (by simp), hg.cell (hc j hj).2 (by simp)⟩⟩

/-- what a need adds -/
def upd (A : List Nat) (e : Int × Int) : List Nat := A.set e.1.toNat (A.getD e.1.toNat 0 ||| 2 ^ e.2.toNat)
def adj (E : List (Int × Int)) : List Nat := E.foldl upd (List.replicate 16 0)
theorem adj_take (E : List (Int × Int)) (k : Nat) (hk : k < E.length) : adj (E.take (k + 1)) = upd (adj (E.take k)) (E.getD k (0, 0)) := by
  unfold adj
  rw [List.take_succ_eq_append_getElem hk, List.foldl_append]
  simp [hk]
def In16 (n : Int) (e : Int × Int) : Prop := 0 ≤ e.1 ∧ e.1 < n ∧ 0 ≤ e.2 ∧ e.2 < n
theorem upd_len (A : List Nat) (e : Int × Int) : (upd A e).length = A.length := by simp [upd]
theorem adj_len (E : List (Int × Int)) : (adj E).length = 16 := by
  unfold adj
  suffices ∀ A : List Nat, (E.foldl upd A).length = A.length by rw [this]; simp
  induction E with
  | nil => intro A; rfl
  | cons e r ih => intro A; rw [List.foldl_cons, ih, upd_len]
theorem getD_lt (A : List Nat) (hA : ∀ a ∈ A, a < 65536) (j : Nat) : A.getD j 0 < 65536 := by
  rw [List.getD_eq_getElem?_getD]
  cases h : A[j]? with
  | none => simp
  | some a => exact hA a (List.mem_of_getElem? h)
theorem upd_lt (A : List Nat) (e : Int × Int) (hA : ∀ a ∈ A, a < 65536) (he : e.2 < 16) : ∀ a ∈ upd A e, a < 65536 := by
  intro a ha
  rcases List.mem_or_eq_of_mem_set ha with h | h
  · exact hA a h
  · rw [h]; exact with_lt _ _ (getD_lt A hA _) (by omega)
theorem adj_lt (E : List (Int × Int)) (h : ∀ e ∈ E, e.2 < 16) : ∀ a ∈ adj E, a < 65536 := by
  unfold adj
  suffices ∀ A : List Nat, (∀ a ∈ A, a < 65536) → ∀ a ∈ E.foldl upd A, a < 65536 from this _ (by intro a ha; rw [List.eq_of_mem_replicate ha]; decide)
  induction E with
  | nil => intro A hA; exact hA
  | cons e r ih => intro A hA; exact ih (fun x hx => h x (List.mem_cons_of_mem _ hx)) _ (upd_lt A e hA (h e List.mem_cons_self))
theorem gCells_len (n : Int) (A : List Nat) : (gCells n A).length = A.length + 1 := by simp [gCells]
theorem gCells_one (n : Int) (A : List Nat) : ∀ v ∈ gCells n A, v.oneCell' = true := by
  intro v hv
  rcases List.mem_cons.1 hv with rfl | hv
  · rfl
  · obtain ⟨a, _, rfl⟩ := List.mem_map.1 hv; rfl
theorem mem_getD (E : List (Int × Int)) (k : Nat) (h : k < E.length) : E.getD k (0, 0) ∈ E := by
  rw [show E.getD k (0, 0) = E[k] from by simp [h]]
  exact List.getElem_mem h
theorem info52 : (Tryd.prog.info? 49).map (·.size) = some 17 := by kernel_rfl

set_option maxRecDepth 100000 in
set_option maxHeartbeats 400000 in
theorem graphOf_yes (w : World) (n : Int) (h0 : 0 ≤ n) (h16 : n ≤ 16) (ao : Option Addr) (cap : Nat) (E : List (Int × Int)) (hE : NLies w ao E) (hl : E.length ≤ 1048576) :
    Calls Tryd.prog 23 #[.int .i64 n, .slice ao E.length cap] w fun e w' => ∃ A b, e = .returned (.tuple #[.agg (gCells n A).toArray, .bool b]) ∧ A.length = 16 ∧ (b = true ↔ ∀ e ∈ E, In16 n e) ∧ (b = true → A = adj E) ∧ w.grownBy w' none := by
  have HE := Lib.hid hE
  have HB0 := Lib.hid (Blk.new w 49 (gCells 0 (List.replicate 16 0)))
  have HB1 := Lib.hid (Blk.new (w.alloc (.cells (gCells 0 (List.replicate 16 0)).toArray 49)) 49 (gCells 0 (List.replicate 16 0)))
  have hsz1 : (w.alloc (.cells (gCells 0 (List.replicate 16 0)).toArray 49)).heap.size = w.heap.size + 1 := by simp
  rw [hsz1] at HB1
  clear hE hsz1
  go_enter Tryd.func23, Tryd.ntmps23
  go_upto_region 1 with (fail)
  go_wp2_with ((with_reducible refine wpList_store_blk ?_ 49 (.tmp 6) (.tmp 10) ?_ (w.heap.size + 1) (gCells n (List.replicate 16 0)) (gCells 0 (List.replicate 16 0)) 49 ?_ ?_ ?_ ?_ ?_ ?_ ?_); exact rfl; exact rfl; exact HB1.out; exact info52; exact rfl; exact gCells_one _ _; exact rfl; exact rfl; intro w1 HB2 HG1)
  go_loopw [20] (fun i wr => ∃ k : Nat, k ≤ E.length ∧ i = .int .i64 k ∧ (∀ e ∈ E.take k, In16 n e) ∧ Blk wr (w.heap.size + 1) 49 (gCells n (adj (E.take k))) ∧ Blk wr w.heap.size 49 (gCells 0 (List.replicate 16 0)) ∧ w.grownBy wr none) (fun i _ => E.length - (intOf i).toNat)
  case atStart =>
    refine ⟨0, Nat.zero_le _, rfl, by simp, HB2.out, (HB0.out.alloc _).kept HG1.out (by simp), ?_⟩
    exact grown_into (grown_alloc (grown_alloc (grown_refl _ _) _) _) HG1.out (by omega)
  case round =>
    obtain ⟨k, hk, rfl, hin, hb, hb0, hg⟩ := hrel
    have HIN := Lib.hid hin
    have HB := Lib.hid hb
    have HBR := Lib.hid hb0
    have HG := Lib.hid hg
    have hwl := hb.lt
    clear hin hb hb0 hg HB0 HB1 HB2 HG1
    by_cases hlt : k < E.length
    · rcases HE.out with h00 | ⟨ab, o, rfl, hc⟩
      · omega
      obtain ⟨f, hf⟩ : ∃ f, f = (E.getD k (0, 0)).1 := ⟨_, rfl⟩
      obtain ⟨g, hg⟩ : ∃ g, g = (E.getD k (0, 0)).2 := ⟨_, rfl⟩
      have d0 := HG.out.cell (hc k hlt).1 (by simp)
      have d1 := HG.out.cell (hc k hlt).2 (by simp)
      rw [← hf] at d0
      rw [← hg] at d1
      have d0' : wr.cell? ⟨ab, o + k * 2, none⟩ = some (.int .i64 f) := by rw [Nat.mul_comm]; exact d0
      have d1' : wr.cell? ⟨ab, o + k * 2 + 1, none⟩ = some (.int .i64 g) := by rw [Nat.mul_comm]; exact d1
      have HF := Lib.hid hf
      have HGG := Lib.hid hg
      have hkI : (k : Int) < E.length := by omega
      clear hf hg hc
      have HI := Lib.hid (show (Tryd.prog.info? 49).map (·.size) = some (gCells n (adj (E.take k))).length from by rw [gCells_len, adj_len]; exact info52)
      by_cases c1 : 0 ≤ f ∧ f < n
      · have c1d : decide (0 ≤ f ∧ f < n) = true := by simp [c1]
        obtain ⟨c1a, c1b⟩ := c1
        by_cases c2 : 0 ≤ g ∧ g < n
        · have c2d : decide (0 ≤ g ∧ g < n) = true := by simp [c2]
          obtain ⟨c2a, c2b⟩ := c2
          go_wp2_with (first | ((with_reducible refine wpList_load_blk_if 49 (.tmp 6) ?_ ?_ (w.heap.size + 1) (gCells n (adj (E.take k))) 49 ?_ _ Tryd.underlying49 ?_ ?_ ?_ ?_); exact rfl; exact rfl; (first | exact HB.out.alloc _ | exact (HB.out.alloc _).alloc _ | exact ((HB.out.alloc _).alloc _).alloc _); exact rfl; exact HI.out; exact rfl) | (go_at_call 33; refine (there_any _ n (adj (E.take k)) _).mono ?_; rintro e w' ⟨rfl, rfl⟩))
          obtain ⟨p, rfl⟩ := Int.eq_ofNat_of_zero_le c1a
          obtain ⟨q, rfl⟩ := Int.eq_ofNat_of_zero_le c2a
          obtain ⟨A, hA⟩ : ∃ A, A = adj (E.take k) := ⟨_, rfl⟩
          rw [← hA]
          refine wp_still_tail 12 (by kernel_rfl) (by kernel_rfl) (fun wx => Blk wx (w.heap.size + 1) 49 (gCells n A) ∧ Blk wx wr.heap.size 32 [.int .i64 (p : Int), .int .i64 (q : Int)] ∧ wr.grownBy wx none) ⟨by rw [hA]; exact ((HB.out.alloc _).alloc _).alloc _, ((Blk.new wr 32 _).alloc _).alloc _, grown_drew (grown_alloc (grown_alloc (grown_alloc (grown_refl _ _) _) _) _)⟩ ?_
          rintro wx ⟨hb1, hb2, hg1⟩
          have e0 := hb2.cell (j := 0) rfl
          have e1 := hb2.cell (j := 1) rfl
          have hA16 : A.length = 16 := by rw [hA, adj_len]
          have hp16 : p < 16 := by omega
          have hq16 : q < 16 := by omega
          obtain ⟨x, hx⟩ : ∃ x, x = A.getD p 0 := ⟨_, rfl⟩
          have hgx : (gCells n A)[1 + p]? = some (.int .u16 (x : Int)) := by
            rw [hx, Nat.add_comm 1 p]
            simp [gCells, hA16, hp16]
          have e2 : wx.cell? ⟨w.heap.size + 1, 1 + p, none⟩ = some (.int .u16 (x : Int)) := hb1.cell hgx
          have e3 := hb1.frozen (1 + p)
          have hx65 : x < 65536 := by
            rw [hx, hA]
            exact getD_lt _ (adj_lt _ (fun e he => by have := HIN.out e he; unfold In16 at this; omega)) p
          have hp0 : (0 : Int) ≤ p := by omega
          have hpI : (p : Int) < 16 := by omega
          have HB1 := Lib.hid hb1
          have HG1 := Lib.hid hg1
          have HX := Lib.hid hx
          have HA := Lib.hid hA
          clear hb1 hb2 hg1 hx hgx hA
          simp only [List.take_succ_cons, List.take_zero, List.drop_succ_cons, List.drop_zero]
          iterate 9 still_step
          still_call (with_any _ x q hx65 hq16)
          repeat still_step
          refine wpStill_nil ?_
          go_wp2
          refine ⟨⟨k + 1, by omega, by go_num, ?_, ?_, ?_, ?_⟩, by simp [intOf]; omega⟩
          · intro e he
            rw [List.take_succ_eq_append_getElem hlt] at he
            rcases List.mem_append.1 he with he | he
            · exact HIN.out e he
            · have : e = E.getD k (0, 0) := by simpa [hlt] using he
              unfold In16
              rw [this, ← HF.out, ← HGG.out]
              exact ⟨hp0, c1b, by omega, c2b⟩
          · have := HB1.out.set (1 + p) (.int .u16 ((x ||| 2 ^ q : Nat) : Int))
            rw [adj_take E k hlt, ← HA.out]
            rw [show gCells n (upd A (E.getD k (0, 0))) = (gCells n A).set (1 + p) (.int .u16 ((x ||| 2 ^ q : Nat) : Int)) from by
              unfold upd gCells
              rw [← HF.out, ← HGG.out, Int.toNat_natCast, Int.toNat_natCast, ← HX.out, Nat.add_comm 1 p, List.set_cons_succ, List.map_set]]
            exact this
          · exact ((HBR.out.kept HG1.out (by simp)).kept (grown_set (grown_refl _ _) _ _) (by simp))
          · exact grown_into (grown_trans HG.out HG1.out) (grown_set (grown_refl _ _) _ _) (by omega)
        · have c2d : decide (0 ≤ g ∧ g < n) = false := by simpa using c2
          have HLL := Lib.hid (show (gCells 0 (List.replicate 16 0)).length = (gCells n (adj (E.take k))).length from by rw [gCells_len, gCells_len, adj_len]; rfl)
          clear c2
          have HNO := Lib.hid (show ¬ ∀ e ∈ E, In16 n e from fun h => by
            have h1 := h _ (mem_getD E k hlt)
            unfold In16 at h1
            rw [← HF.out, ← HGG.out] at h1
            simp only [decide_eq_false_iff_not] at c2d
            omega)
          go_wp2_with (first | ((with_reducible refine wpList_load_blk_if 49 (.tmp 6) ?_ ?_ (w.heap.size + 1) (gCells n (adj (E.take k))) 49 ?_ _ Tryd.underlying49 ?_ ?_ ?_ ?_); exact rfl; exact rfl; (first | exact HB.out.alloc _ | exact (HB.out.alloc _).alloc _ | exact ((HB.out.alloc _).alloc _).alloc _); exact rfl; exact HI.out; exact rfl) | (go_at_call 33; refine (there_any _ n (adj (E.take k)) _).mono ?_; rintro e w' ⟨rfl, rfl⟩) | ((with_reducible refine wpList_store_blk ?_ 49 (.tmp 4) (.tmp 36) ?_ w.heap.size (gCells n (adj (E.take k))) (gCells 0 (List.replicate 16 0)) 49 ?_ ?_ ?_ ?_ ?_ ?_ ?_); exact rfl; exact rfl; (first | exact HBR.out.alloc _ | exact (HBR.out.alloc _).alloc _ | exact ((HBR.out.alloc _).alloc _).alloc _); exact HI.out; (exact HLL.out); exact gCells_one _ _; exact rfl; exact rfl; intro w2 HB3 HG3))
          refine bodyPost_ret (v := .tuple #[.agg (gCells n (adj (E.take k))).toArray, .bool false]) (results_blk rfl _ _ w.heap.size 49 _ _ _ HB3.out Tryd.underlying49 rfl HI.out rfl rfl) rfl ⟨_, false, rfl, adj_len _, ⟨?_, ?_⟩, ?_, ?_⟩
          · exact fun h => by cases h
          · exact fun h => absurd h HNO.out
          · exact fun h => by cases h
          · exact grown_into (grown_alloc (grown_alloc (grown_alloc HG.out _) _) _) HG3.out (Nat.le_refl _)
      · have c1d : decide (0 ≤ f ∧ f < n) = false := by simpa using c1
        have HLL := Lib.hid (show (gCells 0 (List.replicate 16 0)).length = (gCells n (adj (E.take k))).length from by rw [gCells_len, gCells_len, adj_len]; rfl)
        clear c1
        have HNO := Lib.hid (show ¬ ∀ e ∈ E, In16 n e from fun h => by
          have h1 := h _ (mem_getD E k hlt)
          unfold In16 at h1
          rw [← HF.out, ← HGG.out] at h1
          simp only [decide_eq_false_iff_not] at c1d
          omega)
        go_wp2_with (first | ((with_reducible refine wpList_load_blk_if 49 (.tmp 6) ?_ ?_ (w.heap.size + 1) (gCells n (adj (E.take k))) 49 ?_ _ Tryd.underlying49 ?_ ?_ ?_ ?_); exact rfl; exact rfl; (first | exact HB.out.alloc _ | exact (HB.out.alloc _).alloc _ | exact ((HB.out.alloc _).alloc _).alloc _); exact rfl; exact HI.out; exact rfl) | (go_at_call 33; refine (there_any _ n (adj (E.take k)) _).mono ?_; rintro e w' ⟨rfl, rfl⟩) | ((with_reducible refine wpList_store_blk ?_ 49 (.tmp 4) (.tmp 36) ?_ w.heap.size (gCells n (adj (E.take k))) (gCells 0 (List.replicate 16 0)) 49 ?_ ?_ ?_ ?_ ?_ ?_ ?_); exact rfl; exact rfl; (first | exact HBR.out.alloc _ | exact (HBR.out.alloc _).alloc _ | exact ((HBR.out.alloc _).alloc _).alloc _); exact HI.out; (exact HLL.out); exact gCells_one _ _; exact rfl; exact rfl; intro w2 HB3 HG3))
        refine bodyPost_ret (v := .tuple #[.agg (gCells n (adj (E.take k))).toArray, .bool false]) (results_blk rfl _ _ w.heap.size 49 _ _ _ HB3.out Tryd.underlying49 rfl HI.out rfl rfl) rfl ⟨_, false, rfl, adj_len _, ⟨?_, ?_⟩, ?_, ?_⟩
        · exact fun h => by cases h
        · exact fun h => absurd h HNO.out
        · exact fun h => by cases h
        · exact grown_into (grown_alloc (grown_alloc HG.out _) _) HG3.out (Nat.le_refl _)
    · obtain rfl : k = E.length := by omega
      have HI := Lib.hid (show (Tryd.prog.info? 49).map (·.size) = some (gCells n (adj (E.take E.length))).length from by rw [gCells_len, adj_len]; exact info52)
      have HLL := Lib.hid (show (gCells 0 (List.replicate 16 0)).length = (gCells n (adj (E.take E.length))).length from by rw [gCells_len, gCells_len, adj_len]; rfl)
      go_wp2_with (first | ((with_reducible refine wpList_load_blk_if 49 (.tmp 6) ?_ ?_ (w.heap.size + 1) (gCells n (adj (E.take E.length))) 49 ?_ _ Tryd.underlying49 ?_ ?_ ?_ ?_); exact rfl; exact rfl; exact HB.out; exact rfl; exact HI.out; exact rfl) | ((with_reducible refine wpList_store_blk ?_ 49 (.tmp 4) (.tmp 50) ?_ w.heap.size (gCells n (adj (E.take E.length))) (gCells 0 (List.replicate 16 0)) 49 ?_ ?_ ?_ ?_ ?_ ?_ ?_); exact rfl; exact rfl; exact HBR.out; exact HI.out; (exact HLL.out); exact gCells_one _ _; exact rfl; exact rfl; intro w2 HB3 HG3))
      refine bodyPost_ret (v := .tuple #[.agg (gCells n (adj (E.take E.length))).toArray, .bool true]) (results_blk rfl _ _ w.heap.size 49 _ _ _ HB3.out Tryd.underlying49 rfl HI.out rfl rfl) rfl ⟨_, true, rfl, adj_len _, ⟨?_, ?_⟩, ?_, ?_⟩
      · intro _ e he
        exact HIN.out e (by rw [List.take_length]; exact he)
      · exact fun _ => rfl
      · intro _
        rw [List.take_length]
      · exact grown_into HG.out HG3.out (Nat.le_refl _)

set_option maxRecDepth 100000 in
set_option maxHeartbeats 400000 in
theorem graphOf_no (w : World) (n : Int) (h : n < 0 ∨ 16 < n) (ao : Option Addr) (l cap : Nat) :
    Calls Tryd.prog 23 #[.int .i64 n, .slice ao l cap] w fun e w' => e = .returned (.tuple #[.agg (gCells n (List.replicate 16 0)).toArray, .bool false]) ∧ w.grownBy w' none := by
  have HB0 := Lib.hid (Blk.new w 49 (gCells 0 (List.replicate 16 0)))
  have HB1 := Lib.hid (Blk.new (w.alloc (.cells (gCells 0 (List.replicate 16 0)).toArray 49)) 49 (gCells 0 (List.replicate 16 0)))
  have hsz1 : (w.alloc (.cells (gCells 0 (List.replicate 16 0)).toArray 49)).heap.size = w.heap.size + 1 := by simp
  rw [hsz1] at HB1
  clear hsz1
  have hd : (decide (n < 0) || decide (n > 16)) = true := by simp; omega
  have HH := Lib.hid h
  clear h
  rcases HH.out with h | h
  · go_enter Tryd.func23, Tryd.ntmps23
    go_upto_region 1 with (fail)
    go_wp2_with (first | ((with_reducible refine wpList_store_blk ?_ 49 (.tmp 6) (.tmp 10) ?_ (w.heap.size + 1) (gCells n (List.replicate 16 0)) (gCells 0 (List.replicate 16 0)) 49 ?_ ?_ ?_ ?_ ?_ ?_ ?_); exact rfl; exact rfl; exact HB1.out; exact info52; exact rfl; exact gCells_one _ _; exact rfl; exact rfl; intro w1 HB2 HG1) | ((with_reducible refine wpList_load_blk_if 49 (.tmp 6) ?_ ?_ (w.heap.size + 1) (gCells n (List.replicate 16 0)) 49 ?_ _ Tryd.underlying49 ?_ ?_ ?_ ?_); exact rfl; exact rfl; exact HB2.out; exact rfl; exact info52; exact rfl) | ((with_reducible refine wpList_store_blk ?_ 49 (.tmp 4) (.tmp 17) ?_ w.heap.size (gCells n (List.replicate 16 0)) (gCells 0 (List.replicate 16 0)) 49 ?_ ?_ ?_ ?_ ?_ ?_ ?_); exact rfl; exact rfl; exact (HB0.out.alloc _).kept HG1.out (by simp); exact info52; exact rfl; exact gCells_one _ _; exact rfl; exact rfl; intro w2 HB3 HG3))
    refine bodyPost_ret (v := .tuple #[.agg (gCells n (List.replicate 16 0)).toArray, .bool false]) (results_blk rfl _ _ w.heap.size 49 _ _ _ HB3.out Tryd.underlying49 rfl info52 rfl rfl) rfl ⟨rfl, ?_⟩
    exact grown_into (grown_into (grown_alloc (grown_alloc (grown_refl _ _) _) _) HG1.out (by omega)) HG3.out (Nat.le_refl _)
  · have h' : ¬ n < 0 := by omega
    go_enter Tryd.func23, Tryd.ntmps23
    go_upto_region 1 with (fail)
    go_wp2_with (first | ((with_reducible refine wpList_store_blk ?_ 49 (.tmp 6) (.tmp 10) ?_ (w.heap.size + 1) (gCells n (List.replicate 16 0)) (gCells 0 (List.replicate 16 0)) 49 ?_ ?_ ?_ ?_ ?_ ?_ ?_); exact rfl; exact rfl; exact HB1.out; exact info52; exact rfl; exact gCells_one _ _; exact rfl; exact rfl; intro w1 HB2 HG1) | ((with_reducible refine wpList_load_blk_if 49 (.tmp 6) ?_ ?_ (w.heap.size + 1) (gCells n (List.replicate 16 0)) 49 ?_ _ Tryd.underlying49 ?_ ?_ ?_ ?_); exact rfl; exact rfl; exact HB2.out; exact rfl; exact info52; exact rfl) | ((with_reducible refine wpList_store_blk ?_ 49 (.tmp 4) (.tmp 17) ?_ w.heap.size (gCells n (List.replicate 16 0)) (gCells 0 (List.replicate 16 0)) 49 ?_ ?_ ?_ ?_ ?_ ?_ ?_); exact rfl; exact rfl; exact (HB0.out.alloc _).kept HG1.out (by simp); exact info52; exact rfl; exact gCells_one _ _; exact rfl; exact rfl; intro w2 HB3 HG3))
    refine bodyPost_ret (v := .tuple #[.agg (gCells n (List.replicate 16 0)).toArray, .bool false]) (results_blk rfl _ _ w.heap.size 49 _ _ _ HB3.out Tryd.underlying49 rfl info52 rfl rfl) rfl ⟨rfl, ?_⟩
    exact grown_into (grown_into (grown_alloc (grown_alloc (grown_refl _ _) _) _) HG1.out (by omega)) HG3.out (Nat.le_refl _)

end Go.Proofs.YtklkfphpoheanaaDoor
