/- impl's ring. -/
import Derived.Test.YtklkfphpoheanaaDoorC9
namespace Go.Proofs.YtklkfphpoheanaaDoor
open Go.RowKit

def CycR (n : Nat) (E : List (Int × Int)) (L : List Int) : Prop := ∃ D, Chain (adj E) n D ∧ (∀ k, freeB (adj E) n D k = false) ∧ (((∀ k : Nat, k < n → (k : Int) ∈ D) ∧ L = []) ∨ RingIs n E D L)

set_option maxRecDepth 100000 in
set_option maxHeartbeats 1000000 in
theorem ring_any (w : World) (n : Nat) (E : List (Int × Int)) (hn : n ≤ 16) (hin : ∀ e ∈ E, In16 n e) (hw : Tabs w) : Calls Tryd.prog 27 #[.agg (gCells n (adj E)).toArray] w fun e w' => ∃ v L, e = .returned v ∧ Row w' w.heap.size v (ints L) ∧ CycR n E L ∧ w.grownBy w' none := by
  have HST := Lib.hid (fun W => stuck_any W n (adj E) hn (adj_len E) (adj_in n hn E hin))
  have HI := Lib.hid (show (Tryd.prog.info? 49).map (·.size) = some (gCells n (adj E)).length from by rw [gCells_len, adj_len]; exact info52)
  have HBG := Lib.hid (Blk.new w 49 (gCells n (adj E)))
  have HW := Lib.hid hw
  clear hw
  have HGA := Lib.hid (show w.grownBy (w.alloc (.cells (gCells n (adj E)).toArray 49)) none from grown_alloc (grown_refl _ _) _)
  generalize (gCells n (adj E)).toArray = C at HBG HGA ⊢
  go_enter Tryd.func27, Tryd.ntmps27
  go_wp2_with (first | ((with_reducible refine wpList_load_blk ?_ 49 (.tmp 1) ?_ w.heap.size (gCells n (adj E)) 49 ?_ _ Tryd.underlying49 ?_ ?_ ?_ ?_); exact rfl; exact rfl; exact HBG.out; exact rfl; exact HI.out; exact rfl))
  refine (HST.out _).mono ?_
  rintro e w1 ⟨s, D, rfl, hs65, hs, hch, hfin, hg1⟩
  have HB1 := Lib.hid (HBG.out.kept hg1 (by simp))
  have HG1 := Lib.hid (grown_trans HGA.out hg1)
  have hsz1 : w.heap.size + 1 ≤ w1.heap.size := by have := hg1.size; simpa using this
  have HS := Lib.hid hs
  have HCH := Lib.hid hch
  have HFI := Lib.hid hfin
  have HBS := Lib.hid (Blk.new w1 46 [.int .u16 0])
  clear hg1 hs hch hfin HST HBG HGA HI
  have info46 : (Tryd.prog.info? 46).map (·.size) = some 1 := by kernel_rfl
  have HI46 := Lib.hid info46
  clear info46
  by_cases hs0 : s = 0
  · have hb0 : ((s : Int) == 0) = true := by simp [hs0]
    have HCY := Lib.hid (show CycR n E [] from ⟨D, HCH.out, HFI.out, .inl ⟨fun k hk => by
      have := HS.out k
      rw [hs0, Nat.zero_testBit] at this
      have := of_decide_eq_false this.symm
      exact Classical.byContradiction fun h => this ⟨hk, h⟩, rfl⟩⟩)
    clear hs0
    go_wp2_with (first | ((with_reducible refine wpList_store_cell ?_ 46 (.tmp 3) (.tmp 7) ?_ w1.heap.size (.int .u16 (s : Int)) (.int .u16 0) 46 ?_ ?_ ?_ ?_ ?_ ?_); exact rfl; exact rfl; exact HBS.out; exact HI46.out; exact rfl; exact rfl; exact rfl; intro w2 HB2 HG2; have d0 : w2.cell? ⟨w1.heap.size, 0, none⟩ = some (.int .u16 (s : Int)) := HB2.out.cell rfl))
    go_ret
    exact ⟨_, [], rfl, Row.nil _ _, HCY.out, grown_into (grown_alloc HG1.out _) HG2.out (by omega)⟩
  · have hb0 : ((s : Int) == 0) = false := by rw [beq_eq_false_iff_ne]; omega
    obtain ⟨t, ht⟩ := least_ex s hs0
    have HLT := Lib.hid ht
    have hbt : t < n ∧ ¬ (t : Int) ∈ D := of_decide_eq_true (by rw [← HS.out t]; exact ht.1)
    have HFS := Lib.hid (show FirstS n D (t : Int) from ⟨by omega, by omega, hbt.2, fun k hk0 hkt => by
      obtain ⟨j, rfl⟩ := Int.eq_ofNat_of_zero_le hk0
      have hj : j < t := by omega
      have := HS.out j
      rw [ht.2 j hj] at this
      have := of_decide_eq_false this.symm
      exact Classical.byContradiction fun h => this ⟨by omega, h⟩⟩)
    have info73 : (Tryd.prog.info? 73).map (·.size) = some 1 := by kernel_rfl
    have HI73 := Lib.hid info73
    have HNK := Lib.hid (fun W : World => show Blk ((W.alloc (.cells #[.slice none 0 0] 26)).alloc (.cells #[.nilFunc] 73)) (W.heap.size + 1) 73 [.nilFunc] from by have := Blk.new (W.alloc (.cells #[.slice none 0 0] 26)) 73 [.nilFunc]; simpa using this)
    have HSZ1 := Lib.hid hsz1
    have HIN := Lib.hid hin
    clear hs0 ht hbt info73 hsz1 hin
    go_wp2_with (first | ((with_reducible refine wpList_store_cell ?_ 46 (.tmp 3) (.tmp 7) ?_ w1.heap.size (.int .u16 (s : Int)) (.int .u16 0) 46 ?_ ?_ ?_ ?_ ?_ ?_); exact rfl; exact rfl; exact HBS.out; exact HI46.out; exact rfl; exact rfl; exact rfl; intro w2 HB2 HG2; have d0 : w2.cell? ⟨w1.heap.size, 0, none⟩ = some (.int .u16 (s : Int)) := HB2.out.cell rfl; have hl2 : w1.heap.size < w2.heap.size := HB2.out.lt; have hl3 : ¬ w1.heap.size = w2.heap.size := Nat.ne_of_lt hl2) | ((with_reducible refine wpList_store_cell ?_ 73 (.tmp 5) (.tmp 10) ?_ (w2.heap.size + 1) (.func (.func 43) #[] #[.pointer (some ⟨w2.heap.size, 0, none⟩), .pointer (some ⟨w2.heap.size + 1, 0, none⟩), .pointer (some ⟨w.heap.size, 0, none⟩), .pointer (some ⟨w1.heap.size, 0, none⟩)]) .nilFunc 73 ?_ ?_ ?_ ?_ ?_ ?_); exact rfl; exact rfl; exact HNK.out w2; exact HI73.out; exact rfl; exact rfl; exact rfl; intro w5 HB5 HG5))
    have HGW := Lib.hid (show w.grownBy w5 none from grown_into (grown_alloc (grown_alloc (grown_into (grown_alloc HG1.out _) HG2.out (by have := HSZ1.out; omega)) _) _) HG5.out (by have := HSZ1.out; omega))
    have HK1 := Lib.hid (show Blk w5 w.heap.size 49 (gCells n (adj E)) from ((((HB1.out.alloc _).kept HG2.out (by have := HSZ1.out; simp; omega)).alloc _).alloc _).kept HG5.out (by have := HSZ1.out; simp; omega))
    have HK2 := Lib.hid (show Blk w5 w1.heap.size 46 [.int .u16 (s : Int)] from ((HB2.out.alloc _).alloc _).kept HG5.out (by simp; omega))
    have HK3 := Lib.hid (show Blk w5 w2.heap.size 26 [.slice none 0 0] from ((Blk.new w2 26 [.slice none 0 0]).alloc _).kept HG5.out (by simp))
    have HK4 := Lib.hid (show w2.heap.size + 2 ≤ w5.heap.size from by have := HG5.out.size; simpa using this)
    have h0w : 0 < w.heap.size := by
      have := HW.out.bs 0 (by decide)
      exact Classical.byContradiction fun h => by
        have hz : w.heap[0]? = none := by rw [Array.getElem?_eq_none_iff]; omega
        unfold World.cell? at this
        simp [hz] at this
    simp only [Act.put]
    refine wp_still_tail 3 (by kernel_rfl) (by kernel_rfl) (fun wx => w.grownBy wx none ∧ Blk wx w.heap.size 49 (gCells n (adj E)) ∧ Blk wx w1.heap.size 46 [.int .u16 (s : Int)] ∧ Blk wx w2.heap.size 26 [.slice none 0 0] ∧ Blk wx (w2.heap.size + 1) 73 [.func (.func 43) #[] #[.pointer (some ⟨w2.heap.size, 0, none⟩), .pointer (some ⟨w2.heap.size + 1, 0, none⟩), .pointer (some ⟨w.heap.size, 0, none⟩), .pointer (some ⟨w1.heap.size, 0, none⟩)]] ∧ w2.heap.size + 2 ≤ wx.heap.size) ⟨grown_drew HGW.out, HK1.out, HK2.out, HK3.out, HB5.out, HK4.out⟩ ?_
    rintro wx ⟨q0, q1, q2, q3, q4, q5⟩
    have e0 := q4.cell (j := 0) rfl
    have e1 := q2.cell (j := 0) rfl
    have HT := Lib.hid (HW.out.grown q0)
    have HQ0 := Lib.hid q0
    have HEND := Lib.hid (way_any w.heap.size w1.heap.size (w2.heap.size + 1) w2.heap.size (w2.heap.size + 2) n E D s (t : Int) hn HIN.out HFI.out hs65 HS.out ⟨HFS.out.1, HFS.out.2.1, HFS.out.2.2.1⟩ (by have := HSZ1.out; omega) (by omega) (by omega) (by omega) (n + 1) wx [] t (.slice none 0 0) (by simp) q5 HT.out Way.start q1 q2 q3 (Row.nil _ _) q4)
    have HSZ := Lib.hid (show w.heap.size < w2.heap.size from by have := HSZ1.out; omega)
    clear q0 q1 q2 q3 q4 q5 d0 HK1 HK2 HK3 HK4 HGW HB1 HB2 HG1 HG2 HBS HB5 HG5 hl2 hl3 HSZ1 HNK
    simp only [List.take_succ_cons, List.take_zero, List.drop_succ_cons, List.drop_zero]
    iterate 2 still_step
    still_call (least_any _ s hs65 t HLT.out HT.out)
    repeat still_step
    refine wpStill_nil ?_
    go_wp2_with fail
    refine HEND.out.mono ?_
    rintro e w7 ⟨v7, rfl, g, t7, cp, W', a', rfl, q2, q3, q4, q5, q6, q7⟩
    obtain ⟨t8, ht8, hl8, -, -⟩ := q5.yes q4
    obtain rfl : t7 = t8 := by omega
    have HGR := Lib.hid (q7.grown HQ0.out (fun i hi h => by have := HSZ.out; rcases h with h | h <;> omega))
    have hWl := q3.len hn HIN.out HFI.out ⟨HFS.out.1, HFS.out.2.1, HFS.out.2.2.1⟩
    have hdl : (W'.drop t7).length = W'.length - t7 := by simp
    have HTU := Lib.hid (turned_any w7 g t7 cp (W'.drop t7) (by omega) (by omega) (by omega) (fun j hj => by
      rw [q6 j (by omega)]
      simp [List.getElem?_drop]))
    rw [hdl] at HTU
    have HRI := Lib.hid (fun L (h : TurnOf (W'.drop t7) L) => (show CycR n E L from ⟨D, HCH.out, HFI.out, .inr ⟨t, W', a', t7, HFS.out, q3, q4, q5, h⟩⟩))
    clear q2 q3 q4 q5 q6 q7 hdl HEND
    go_wp2_with fail
    refine HTU.out.mono ?_
    rintro e w8 ⟨v8, L, rfl, hrow, htn, hg8⟩
    have HFIN := Lib.hid (show Row w8 w.heap.size v8 (ints L) ∧ CycR n E L ∧ w.grownBy w8 none from ⟨hrow.base HGR.out.size, HRI.out L htn, grown_trans HGR.out hg8⟩)
    clear hrow htn hg8 HTU HRI
    go_wp2
    go_ret
    exact ⟨v8, L, rfl, HFIN.out.1, HFIN.out.2.1, HFIN.out.2.2⟩
end Go.Proofs.YtklkfphpoheanaaDoor
