/- The library's heap: Push and Pop. -/
import Derived.Test.YtklkfphpoheanaaDoorM2
import Derived.Test.YtklkfphpoheanaaDoorR2
namespace Go.Proofs.YtklkfphpoheanaaDoor
open Go.RowKit

def hpX (hb : Nat) (v : Value) : Nat → Prop := fun i => i = hb ∨ v.ownBlock = some i
theorem info67 : (Tryd.prog.info? 63).map (·.size) = some 1 := by kernel_rfl

theorem ta_int (x : Int) (W : World) : (Instr.typeAssert (.iface 3 (.int .i64 x)) 20 3 false).run Tryd.prog W = .ok (.int .i64 x) W := by
  simp [Instr.typeAssert, go_sem]
/-- a row that holds something lies in a block -/
theorem row_block {w : World} {base : Nat} {v : Value} {L : List Int} (h : Row w base v (ints L)) (h0 : 0 < L.length) : ∃ g cp, v = .slice (some ⟨g, 0, none⟩) L.length cp ∧ base ≤ g ∧ g < w.heap.size := by
  rcases h with ⟨_, h1⟩ | ⟨g, cap, rfl, hb, hl, _⟩
  · have : L = [] := by simpa [ints] using h1
    subst this; simp at h0
  · exact ⟨g, cap, by rw [ints_len], hb, hl⟩

set_option maxRecDepth 100000 in
set_option maxHeartbeats 1000000 in
theorem hpush_any (w : World) (hb base : Nat) (v : Value) (L : List Int) (x : Int) (hL : L.length ≤ 1048576) (hB : Blk w hb 65 [v]) (hR : Row w base v (ints L)) (hbb : hb < base) (hbs : base ≤ w.heap.size) :
    Calls Tryd.prog 73 #[.pointer (some ⟨hb, 0, none⟩), .iface 3 (.int .i64 x)] w fun e w' => (∃ u, e = .returned u) ∧ ∃ v', Blk w' hb 65 [v'] ∧ Row w' base v' (ints (L ++ [x])) ∧ Fr w w' (hpX hb v) ∧ ∀ q, v'.ownBlock = some q → v.ownBlock = some q ∨ w.heap.size ≤ q := by
  have HB := Lib.hid hB
  have HR := Lib.hid hR
  have d0 := hB.cell (j := 0) rfl
  have HLN := Lib.hid (ints_len L)
  have HNE := Lib.hid (show ∀ q, v.ownBlock = some q → hb ≠ q from fun q hq => by have := (hR.lt q hq).1; omega)
  have hhb := hB.lt
  obtain ⟨i3, hi3, hz0, hz1, hz2⟩ := info_parts info3
  have hta := ta_int x
  clear hB hR
  go_enter Tryd.func73, Tryd.ntmps73
  go_wp2
  go_region_law (refine step_append_row2 (by rfl) _ _ 63 (by rfl) 3 i3 (.int .i64 0) 8 Tryd.underlying63 hi3 hz0 hz1 hz2 rfl base _ (ints L) (by rfl) (HR.out.alloc _) ⟨w.heap.size, 0, none⟩ 1 1 (ints [x]) (by rfl) rfl (news_new w 3 (ints [x])) (ints_one _) (by rw [HLN.out]; unfold maxLen; omega) (by rw [HLN.out]; omega) (by simp; omega) ?_; intro v1 w1 hrow1 hg1 hown; obtain ⟨g1, c1, rfl, hb1, hl1⟩ := row_block (show Row w1 base v1 (ints (L ++ [x])) from by rw [ints_app]; exact hrow1.out) (by simp); have d1 : w1.cell? ⟨hb, 0, none⟩ = some v := hg1.out.cell ((World.grownBy_alloc w _ none).cell d0 (by simp)) (fun e => HNE.out hb e.symm rfl); have hbl := ((HB.out.alloc (Obj.cells #[Value.int IntKind.i64 x] 3)).drew).kept hg1.out (fun e => HNE.out hb e.symm rfl); have d2 := hbl.frozen 0)
  all_goals
    have HB1 := Lib.hid hbl
    have HR1 := Lib.hid (show Row w1 base (.slice (some ⟨g1, 0, none⟩) (L ++ [x]).length c1) (ints (L ++ [x])) from by rw [ints_app]; exact hrow1.out)
    clear d1 d2 hbl d0
    go_wp2
    go_end0
    have hside : ∀ q, (Value.slice (some ⟨g1, 0, none⟩) (L ++ [x]).length c1).ownBlock = some q → some q ≠ some hb := fun q hq e => by
      have h1 : g1 = q := by simpa [Value.ownBlock] using hq
      have h2 : q = hb := by simpa using e
      omega
    have hlen1 : (L ++ [x]).length = L.length + 1 := by simp
    rw [hlen1] at HR1 hside hown
    refine ⟨⟨_, rfl⟩, _, (HB1.out.set 0 _), HR1.out.kept (grown_set (grown_refl _ _) 0 _) hside, ?_, ?_⟩
    · refine ⟨hg1.out.os, hg1.out.tape, hg1.out.output, ?_, fun i hi hx => ?_⟩
      · have := hg1.out.size
        simp [World.setCell] at this ⊢
        omega
      · rw [heap_setCell_other _ _ _ _ (fun e => hx (.inl e))]
        rw [hg1.out.block i (by simp; omega) (fun e => hx (.inr e.symm))]
        exact Below.heap_alloc w _ i hi
    · intro q hq
      rcases hown.out q hq with h | h
      · exact .inl h
      · exact .inr (by simp at h; omega)

set_option maxRecDepth 100000 in
set_option maxHeartbeats 1000000 in
theorem hpop_any (w : World) (hb base g cp : Nat) (L : List Int) (m : Int) (hL : L.length ≤ 1048576) (hB : Blk w hb 65 [.slice (some ⟨g, 0, none⟩) (L ++ [m]).length cp]) (hR : Row w base (.slice (some ⟨g, 0, none⟩) (L ++ [m]).length cp) (ints (L ++ [m]))) (hbb : hb < base) :
    Calls Tryd.prog 72 #[.pointer (some ⟨hb, 0, none⟩)] w fun e w' => e = .returned (.iface 3 (.int .i64 m)) ∧ Blk w' hb 65 [.slice (some ⟨g, 0, none⟩) L.length cp] ∧ Row w' base (.slice (some ⟨g, 0, none⟩) L.length cp) (ints L) ∧ w.grownBy w' (some hb) := by
  have hlen : (L ++ [m]).length = L.length + 1 := by simp
  have HB := Lib.hid hB
  have HR := Lib.hid hR
  obtain ⟨-, hcp, hcc, -, hbg, hgl⟩ := row_at hR
  have d1 := hcc L.length (by omega)
  rw [show (L ++ [m]).getD L.length 0 = m from by simp [List.getD_eq_getElem?_getD]] at d1
  rw [hlen] at hB hcp HB HR
  have d0 := hB.cell (j := 0) rfl
  have d2 := hB.frozen 0
  have hR2 : Row w base (.slice (some ⟨g, 0, none⟩) L.length cp) (ints L) := by
    rcases hR with ⟨h0, _⟩ | ⟨g', cap, he, hb', hl', hn', hc', hf'⟩
    · cases h0
    · rw [ints_len] at *
      cases he
      refine .inr ⟨g, cp, by rw [ints_len], hb', hl', by rw [ints_len]; omega, fun j hj => ?_, hf'⟩
      rw [ints_len] at hj
      rw [hc' j (by omega), ints_app, List.getElem?_append_left (by rw [ints_len]; exact hj)]
  have HR2 := Lib.hid hR2
  have hcpI : (L.length : Int) ≤ (cp : Int) := by omega
  clear hB hR hcc hR2 hlen
  go_enter Tryd.func72, Tryd.ntmps72
  go_wp2
  go_ret
  refine ⟨rfl, HB.out.set 0 _, HR2.out.kept (grown_set (grown_refl _ _) 0 _) (fun q hq e => ?_), grown_set (grown_refl _ _) 0 _⟩
  have h1 : g = q := by simpa [Value.ownBlock] using hq
  have h2 : q = hb := by simpa using e
  omega

set_option maxRecDepth 100000 in
set_option maxHeartbeats 1000000 in
theorem Push_any (w : World) (hb base : Nat) (v : Value) (L : List Int) (x : Int) (hL : L.length ≤ 1000) (hB : Blk w hb 65 [v]) (hR : Row w base v (ints L)) (hH : HeapL L L.length) (hbb : hb < base) (hbs : base ≤ w.heap.size) :
    Calls Tryd.prog 35 #[.iface 67 (.pointer (some ⟨hb, 0, none⟩)), .iface 3 (.int .i64 x)] w fun e w' => (∃ u, e = .returned u) ∧ ∃ v' L', Blk w' hb 65 [v'] ∧ Row w' base v' (ints L') ∧ HeapL L' L'.length ∧ L'.Perm (L ++ [x]) ∧ Fr w w' (hpX hb v) ∧ ∀ q, v'.ownBlock = some q → v.ownBlock = some q ∨ w.heap.size ≤ q := by
  have HP := Lib.hid (hpush_any w hb base v L x (by omega) hB hR hbb hbs)
  have HH := Lib.hid hH
  have mP := direct_any metPush hb
  clear hB hR hH
  go_enter Tryd.func35, Tryd.ntmps35
  go_wp2_with fail
  refine HP.out.mono ?_
  rintro e w1 ⟨⟨u, rfl⟩, v', hB1, hR1, hF1, hO1⟩
  obtain ⟨g, cp, rfl, hbg, hgl⟩ := row_block hR1 (by simp)
  have hlen : (L ++ [x]).length = L.length + 1 := by simp
  have d0 := hB1.cell (j := 0) rfl
  have mL := via_any metLen hb (some ⟨g, 0, none⟩) _ cp w1 d0
  have HU := Lib.hid (up_any w1 hb base g cp (L ++ [x]) (by omega) L.length (by omega) (by omega) hB1 hR1 (HeapL.up HH.out))
  have HB1 := Lib.hid hB1
  have HF1 := Lib.hid hF1
  have HO1 := Lib.hid hO1
  rw [hlen] at mL HO1 HU HB1
  clear hB1 hR1 hF1 hO1 HP d0 HH
  go_wp2_with (first | (go_at_call 36; refine (len_any _ _ _ _).mono ?_; rintro e w' ⟨rfl, hw⟩; have hw := hw.symm; subst hw))
  refine HU.out.mono ?_
  rintro e w2 ⟨⟨u2, rfl⟩, L', hp, hh, hr, hg⟩
  have HFIN := Lib.hid (show ∃ v' L', Blk w2 hb 65 [v'] ∧ Row w2 base v' (ints L') ∧ HeapL L' L'.length ∧ L'.Perm (L ++ [x]) ∧ Fr w w2 (hpX hb v) ∧ ∀ q, v'.ownBlock = some q → v.ownBlock = some q ∨ w.heap.size ≤ q from by
    refine ⟨_, L', HB1.out.kept hg (by simp; omega), hr, by rw [hp.length_eq, hlen]; exact hh, hp, ?_, HO1.out⟩
    refine ⟨hg.os.trans HF1.out.os, hg.tape.trans HF1.out.tape, hg.output.trans HF1.out.output, Nat.le_trans HF1.out.size hg.size, fun i hi hx => ?_⟩
    rw [hg.block i (Nat.lt_of_lt_of_le hi HF1.out.size) (fun e => by
      have e' : i = g := by simpa using e
      rcases HO1.out g rfl with h | h
      · exact hx (.inr (by rw [e']; exact h))
      · omega)]
    exact HF1.out.block i hi hx)
  clear hp hh hr hg HU mL mP
  go_wp2
  go_end0
  exact ⟨⟨_, rfl⟩, HFIN.out⟩

theorem take_last (L : List Int) (n : Nat) (h : L.length = n + 1) : L = L.take n ++ [L.getD n 0] := by
  have := List.take_succ_eq_append_getElem (show n < L.length by omega)
  rw [List.take_of_length_le (by omega)] at this
  rw [show L.getD n 0 = L[n] from by simp [h]]
  exact this
theorem heap_take (L : List Int) (n : Nat) (h : HeapL L n) : HeapL (L.take n) n := fun k k0 kn => by
  have e : ∀ j, j < n → (L.take n).getD j 0 = L.getD j 0 := fun j hj => by
    rw [List.getD_eq_getElem?_getD, List.getElem?_take, if_pos hj, List.getD_eq_getElem?_getD]
  rw [e _ (by omega), e _ kn]
  exact h k k0 kn

set_option maxRecDepth 100000 in
set_option maxHeartbeats 1000000 in
theorem Pop_any (w : World) (hb base : Nat) (v : Value) (L : List Int) (hL : L.length ≤ 1000) (h0 : 0 < L.length) (hB : Blk w hb 65 [v]) (hR : Row w base v (ints L)) (hH : HeapL L L.length) (hbb : hb < base) :
    Calls Tryd.prog 37 #[.iface 67 (.pointer (some ⟨hb, 0, none⟩))] w fun e w' => e = .returned (.iface 3 (.int .i64 (L.getD 0 0))) ∧ ∃ v' L', Blk w' hb 65 [v'] ∧ Row w' base v' (ints L') ∧ HeapL L' L'.length ∧ (L' ++ [L.getD 0 0]).Perm L ∧ Fr w w' (hpX hb v) ∧ v'.ownBlock = v.ownBlock := by
  obtain ⟨g, cp, rfl, hbg, hgl⟩ := row_block hR h0
  obtain ⟨n, hn⟩ : ∃ n, n + 1 = L.length := ⟨L.length - 1, by omega⟩
  obtain ⟨m, hm⟩ : ∃ m, m = L.getD 0 0 := ⟨_, rfl⟩
  rw [← hm]
  have HM := Lib.hid hm
  have d0 := hB.cell (j := 0) rfl
  have mN := via_any metLen hb (some ⟨g, 0, none⟩) _ cp w d0
  have mS := via_any metSwap hb (some ⟨g, 0, none⟩) _ cp w d0
  have mP := direct_any metPop hb
  have e1 : (L.length : Int) - 1 = (n : Int) := by omega
  have HB := Lib.hid hB
  have HR := Lib.hid hR
  have HH := Lib.hid hH
  clear hB hR hH hm d0
  go_enter Tryd.func37, Tryd.ntmps37
  go_wp2_with (first | (go_at_call 36; refine (len_any _ _ _ _).mono ?_; rintro e w' ⟨rfl, hw⟩; have hw := hw.symm; subst hw))
  have HS := Lib.hid (swap_at w L L.length base g cp HR.out 0 n (by omega) (by omega))
  refine HS.out.mono ?_
  rintro e w1 ⟨⟨u, rfl⟩, hr1, hg1⟩
  have hl1 := swapL_len L 0 n
  have HB1 := Lib.hid (HB.out.kept hg1 (by simp; omega))
  have HDN := Lib.hid (show Calls Tryd.prog 48 #[.iface 67 (.pointer (some ⟨hb, 0, none⟩)), .int .i64 0, .int .i64 (n : Int)] w1 fun e w' => (∃ v, e = .returned v) ∧ ∃ L' : List Int, L'.Perm (swapL L 0 n) ∧ HeapL L' n ∧ (∀ q, n ≤ q → L'.getD q 0 = (swapL L 0 n).getD q 0) ∧ Row w' base (.slice (some ⟨g, 0, none⟩) L.length cp) (ints L') ∧ w1.grownBy w' (some g) from by
    have := down_any w1 hb base g cp (swapL L 0 n) (by omega) n (by omega) (by omega) (by rw [hl1]; exact HB1.out) (by rw [hl1]; exact hr1) (HeapL.down HH.out hn)
    rw [hl1] at this
    exact this)
  have HG1 := Lib.hid hg1
  have HMN := Lib.hid (show (swapL L 0 n).getD n 0 = m from by rw [swapL_get L 0 n n (by omega) (by omega), if_pos rfl, HM.out])
  have HPM := Lib.hid (swapL_perm L 0 n (by omega) (by omega))
  clear hr1 hg1 HS mN mS HB HR HH
  go_wp2_with fail
  refine HDN.out.mono ?_
  rintro e w2 ⟨⟨u2, rfl⟩, L2, hp2, hh2, hq2, hr2, hg2⟩
  have hl2 : L2.length = n + 1 := by rw [hp2.length_eq, hl1, hn]
  have hmm : L2.getD n 0 = m := by rw [hq2 n (Nat.le_refl _), HMN.out]
  have htl := take_last L2 n hl2
  rw [hmm] at htl
  have hl3 : (L2.take n).length = n := by rw [List.length_take]; omega
  have HH3 := Lib.hid (heap_take L2 n hh2)
  have HP3 := Lib.hid (show (L2.take n ++ [m]).Perm L from by rw [← htl]; exact hp2.trans HPM.out)
  have HPO := Lib.hid (hpop_any w2 hb base g cp (L2.take n) m (by omega) (by rw [← htl, hl2, hn]; exact HB1.out.kept hg2 (by simp; omega)) (by rw [← htl, hl2, hn]; exact hr2) hbb)
  have HG2 := Lib.hid hg2
  generalize L2.take n = L3 at *
  clear hp2 hh2 hq2 hr2 hg2 hmm htl HDN HB1 HMN HPM hl2
  go_wp2_with fail
  refine HPO.out.mono ?_
  rintro e w3 ⟨rfl, hB3, hR3, hg3⟩
  have HFIN := Lib.hid (show ∃ v' L', Blk w3 hb 65 [v'] ∧ Row w3 base v' (ints L') ∧ HeapL L' L'.length ∧ (L' ++ [m]).Perm L ∧ Fr w w3 (hpX hb (.slice (some ⟨g, 0, none⟩) L.length cp)) ∧ v'.ownBlock = (Value.slice (some ⟨g, 0, none⟩) L.length cp).ownBlock from by
    refine ⟨_, L3, hB3, hR3, by rw [hl3]; exact HH3.out, HP3.out, ?_, rfl⟩
    refine Fr.trans (Fr.trans (Fr.of_grown HG1.out (fun q hq => .inr ?_)) (Fr.of_grown HG2.out (fun q hq => .inr ?_))) (Fr.of_grown hg3 (fun q hq => .inl ?_))
    · simpa [Value.ownBlock] using hq
    · simpa [Value.ownBlock] using hq
    · have : hb = q := by simpa using hq
      exact this.symm)
  clear hB3 hR3 hg3 HPO mP HG1 HG2 HH3 HP3
  go_wp2
  go_ret
  exact ⟨rfl, HFIN.out⟩

end Go.Proofs.YtklkfphpoheanaaDoor
