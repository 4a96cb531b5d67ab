/- Tapes: asked for their size, copied, compared, marked. -/
import Derived.Test.YtgidhfcnjboieaaDoorP4
namespace Go.Proofs.YtgidhfcnjboieaaDoor
open Go.RowKit

set_option maxRecDepth 100000 in
set_option maxHeartbeats 1000000 in
theorem toS2_any (w : World) (base : Nat) (ao : Option Addr) (cap : Nat) (ss : List ByteArray) (hl : Lies w base ao ss) (hn : ss.length ≤ 1048576) :
    Calls Tryd.prog 33 #[.slice ao ss.length cap] w fun e w' => e = .returned (.slice (some ⟨w.heap.size, 0, none⟩) ss.length ss.length) ∧ Blk w' w.heap.size 9 (strs ss) ∧ w.grownBy w' none := by
  have HL := Lib.hid hl
  clear hl
  obtain ⟨i9, hi9, hz0, hz1, hz2⟩ := info_parts info9
  have hmk : ∀ W : World, (Instr.makeSlice 23 (.int .i64 (ss.length : Int)) (.int .i64 (ss.length : Int))).run Tryd.prog W = .ok (.slice (some ⟨W.heap.size, 0, none⟩) ss.length ss.length) (W.alloc (.cells (madeCells #[.string ⟨#[]⟩] ss.length) 9)) := fun W => by
    have := run_make (P := Tryd.prog) W 23 9 i9 (.string ⟨#[]⟩) Tryd.underlying23 hi9 hz0 .i64 .i64 ss.length (ss.length : Int) (by omega) (by omega) (by rw [hz2]; omega) (by omega)
    rw [this, hz1, show ((ss.length : Int)).toNat = ss.length from by omega]
    simp [Value.cells]
  have HB0 := Lib.hid (show Blk (w.alloc (.cells (madeCells #[.string ⟨#[]⟩] ss.length) 9)) w.heap.size 9 (strs (ss.take 0) ++ List.replicate (ss.length - 0) (Value.string ⟨#[]⟩)) from by
    have : madeCells #[Value.string ⟨#[]⟩] ss.length = (strs (ss.take 0) ++ List.replicate (ss.length - 0) (Value.string ⟨#[]⟩)).toArray := by rw [made_one]; simp [strs]
    rw [this]
    exact Blk.new w 9 _)
  go_enter Tryd.func33, Tryd.ntmps33
  go_wp2
  go_loopw [4] (fun i wr => ∃ k : Nat, k ≤ ss.length ∧ i = .int .i64 k ∧ Blk wr w.heap.size 9 (strs (ss.take k) ++ List.replicate (ss.length - k) (Value.string ⟨#[]⟩)) ∧ w.grownBy wr none) (fun i _ => ss.length - (intOf i).toNat)
  case atStart => exact ⟨0, Nat.zero_le _, rfl, HB0.out, grown_alloc (grown_refl _ _) _⟩
  case round =>
    obtain ⟨k, hk, rfl, hb, hg⟩ := hrel
    have HB := Lib.hid hb
    have HG := Lib.hid hg
    have hlt2 := hb.lt
    clear hb hg
    by_cases hlt : k < ss.length
    · obtain ⟨s, hse⟩ : ∃ s, s = ss.getD k ByteArray.empty := ⟨_, rfl⟩
      rcases HL.out with h0 | ⟨ab, o, rfl, -, hc⟩
      · omega
      have d0 := HG.out.cell (hc k hlt) (by simp)
      rw [← hse] at d0
      have d1 : wr.cell? ⟨w.heap.size, k, none⟩ = some (.string ⟨#[]⟩) := by
        refine HB.out.cell ?_
        have hl : (strs (ss.take k)).length = k := by simp [strs]; omega
        rw [List.getElem?_append_right (by omega), hl, Nat.sub_self, List.getElem?_replicate, if_pos (by omega)]
      have d2 := HB.out.frozen k
      have HST := Lib.hid (show (strs (ss.take k) ++ List.replicate (ss.length - k) (Value.string ⟨#[]⟩)).set k (.string s) = strs (ss.take (k + 1)) ++ List.replicate (ss.length - (k + 1)) (Value.string ⟨#[]⟩) from by rw [hse]; exact set_step ss k hlt)
      have hkI : (k : Int) < ss.length := by omega
      clear hc hse
      go_wp2
      go_roundw
      case rel =>
        refine ⟨k + 1, by omega, by go_num, ?_, grown_into HG.out (grown_set (grown_refl _ _) k _) (Nat.le_refl _)⟩
        have := HB.out.set k (.string s)
        rw [HST.out] at this
        exact this
      case measure => simp [intOf]; omega
    · obtain rfl : k = ss.length := by omega
      go_wp2
      go_ret
      refine ⟨rfl, ?_, HG.out⟩
      have := HB.out
      rw [Nat.sub_self, List.take_length] at this
      simpa using this

theorem Blk.row {w : World} {g : Nat} {t : TypeId} {ss : List ByteArray} (h : Blk w g t (strs ss)) (base : Nat) (hb : base ≤ g) : Row w base (.slice (some ⟨g, 0, none⟩) ss.length ss.length) (strs ss) := by
  refine .inr ⟨g, ss.length, by rw [strs_len], hb, h.lt, by rw [strs_len]; exact Nat.le_refl _, fun j hj => ?_, fun j hj => ?_⟩
  · rw [h.cell (List.getElem?_eq_getElem hj), List.getElem?_eq_getElem hj]
  · have hj' : j < (strs ss).length := by rw [strs_len]; exact hj
    exact ⟨by rw [h.cell (List.getElem?_eq_getElem hj')]; rfl, h.frozen j⟩
theorem Blk.at {w : World} {g : Nat} {t : TypeId} {ss : List ByteArray} (h : Blk w g t (strs ss)) : At w ⟨g, 0, none⟩ ss := fun j u hu => by
  rw [Addr.add_mid, Nat.zero_add]; exact h.cell hu
theorem Blk.lies {w : World} {g : Nat} {t : TypeId} {ss : List ByteArray} (h : Blk w g t (strs ss)) : Lies w g (some ⟨g, 0, none⟩) ss := by
  refine .inr ⟨g, 0, rfl, Nat.le_refl _, fun j hj => ?_⟩
  rw [Nat.zero_add]
  exact h.cell (by simp [strs, hj])

set_option maxRecDepth 100000 in
set_option maxHeartbeats 1000000 in
theorem szTape_any (w : World) (a1 a2 : Option Addr) (c1 c2 : Nat) (ss ls : List ByteArray) (h1 : Lies w 0 a1 ss) (h2 : Lies w 0 a2 ls) (n1 : ss.length ≤ 9223372036854775807) (n2 : ls.length ≤ 9223372036854775807) (z1 : ∀ s ∈ ss, s.size ≤ 9223372036854775807) (z2 : ∀ s ∈ ls, s.size ≤ 9223372036854775807) :
    Calls Tryd.prog 11 #[.agg #[.slice a1 ss.length c1, .slice a2 ls.length c2], .int .i64 1048576] w fun e w' => ∃ r : Int, e = .returned (.int .i64 r) ∧ (r < 0 ∨ (0 ≤ r ∧ ss.length + bulkS ss + (ls.length + bulkS ls) ≤ 1048576)) ∧ w.grownBy w' none := by
  have HGA := Lib.hid (show w.grownBy (w.alloc (Obj.cells #[Value.slice a1 ss.length c1, .slice a2 ls.length c2] 31)) none from grown_alloc (grown_refl _ _) _)
  have HS1 := Lib.hid (szS_any (w.alloc (Obj.cells #[Value.slice a1 ss.length c1, .slice a2 ls.length c2] 31)) a1 c1 ss (h1.kept HGA.out (fun q e => by cases e)) n1 z1 1048576 (by omega))
  have HS2 := Lib.hid (fun (B : Nat) (hB : B ≤ 1048576) => szS_any (w.alloc (Obj.cells #[Value.slice a1 ss.length c1, .slice a2 ls.length c2] 31)) a2 c2 ls (h2.kept HGA.out (fun q e => by cases e)) n2 z2 B hB)
  clear h1 h2 z1 z2
  go_enter Tryd.func11, Tryd.ntmps11
  go_wp2_with fail
  refine HS1.out.mono ?_
  rintro e w1 ⟨r, rfl, hr, rfl⟩
  clear HS1
  rcases hr with ⟨rfl, hr⟩ | ⟨hr0, hr⟩
  · clear hr
    go_wp2
    go_ret
    exact ⟨-1, rfl, .inl (by omega), HGA.out⟩
  obtain ⟨R, rfl⟩ := Int.eq_ofNat_of_zero_le hr0
  have HR := Lib.hid hr
  have HC := Lib.hid (HS2.out R (by omega))
  clear hr HS2
  go_wp2_with fail
  refine HC.out.mono ?_
  rintro e w1 ⟨r, rfl, hr, rfl⟩
  clear HC
  rcases hr with ⟨rfl, hr⟩ | ⟨hr0', hr⟩
  · clear hr
    go_wp2
    go_ret
    exact ⟨-1, rfl, .inl (by omega), HGA.out⟩
  have HN := Lib.hid (show ss.length + bulkS ss + (ls.length + bulkS ls) ≤ 1048576 from by have := HR.out; omega)
  have hr' : ¬ r < 0 := by omega
  clear hr
  go_wp2
  go_ret
  exact ⟨r, rfl, .inr ⟨hr0', HN.out⟩, HGA.out⟩

set_option maxRecDepth 100000 in
set_option maxHeartbeats 1000000 in
theorem eqTape_any (w : World) (b1 b2 b3 b4 : Nat) (a1 a2 a3 a4 : Option Addr) (c1 c2 c3 c4 : Nat) (ss ls : List ByteArray) (h1 : Lies w b1 a1 ss) (h2 : Lies w b2 a2 ls) (h3 : Lies w b3 a3 ss) (h4 : Lies w b4 a4 ls) (n1 : ss.length ≤ 1048576) (n2 : ls.length ≤ 1048576) :
    Calls Tryd.prog 14 #[.agg #[.slice a1 ss.length c1, .slice a2 ls.length c2], .agg #[.slice a3 ss.length c3, .slice a4 ls.length c4]] w fun e w' => e = .returned (.bool true) ∧ w.grownBy w' none := by
  have HG := Lib.hid (show w.grownBy ((w.alloc (Obj.cells #[Value.slice a1 ss.length c1, .slice a2 ls.length c2] 25)).alloc (Obj.cells #[Value.slice a3 ss.length c3, .slice a4 ls.length c4] 25)) none from grown_alloc (grown_alloc (grown_refl _ _) _) _)
  have HB1 := Lib.hid (show Blk ((w.alloc (Obj.cells #[Value.slice a1 ss.length c1, .slice a2 ls.length c2] 25)).alloc (Obj.cells #[Value.slice a3 ss.length c3, .slice a4 ls.length c4] 25)) w.heap.size 25 [Value.slice a1 ss.length c1, .slice a2 ls.length c2] from (Blk.new w 25 _).alloc _)
  have HB2 := Lib.hid (show Blk ((w.alloc (Obj.cells #[Value.slice a1 ss.length c1, .slice a2 ls.length c2] 25)).alloc (Obj.cells #[Value.slice a3 ss.length c3, .slice a4 ls.length c4] 25)) (w.heap.size + 1) 25 [Value.slice a3 ss.length c3, .slice a4 ls.length c4] from by
    have := Blk.new (w.alloc (Obj.cells #[Value.slice a1 ss.length c1, .slice a2 ls.length c2] 25)) 25 [Value.slice a3 ss.length c3, .slice a4 ls.length c4]
    simpa using this)
  have HE := Lib.hid (eqS_any _ b1 b3 ss a1 a3 c1 c3 (h1.kept HG.out (fun q e => by cases e)) (h3.kept HG.out (fun q e => by cases e)) n1)
  have H2 := Lib.hid h2
  have H4 := Lib.hid h4
  clear h1 h2 h3 h4
  go_enter Tryd.func14, Tryd.ntmps14
  go_wp2_with fail
  refine HE.out.mono ?_
  rintro e w1 ⟨rfl, hg1⟩
  have HG1 := Lib.hid (grown_trans HG.out hg1)
  have d1 : w1.cell? ⟨w.heap.size, 1, none⟩ = some (.slice a2 ls.length c2) := (HB1.out.kept hg1 (by simp)).cell rfl
  have e1 : w1.cell? ⟨w.heap.size + 1, 1, none⟩ = some (.slice a4 ls.length c4) := (HB2.out.kept hg1 (by simp)).cell rfl
  have HF := Lib.hid (eqS_any w1 b2 b4 ls a2 a4 c2 c4 (H2.out.kept HG1.out (fun q e => by cases e)) (H4.out.kept HG1.out (fun q e => by cases e)) n2)
  clear hg1 HE HG HB1 HB2
  go_wp2_with fail
  refine HF.out.mono ?_
  rintro e w2 ⟨rfl, hg2⟩
  have HG2 := Lib.hid (grown_trans HG1.out hg2)
  clear hg2 HF d1 e1
  go_wp2
  go_ret
  exact ⟨rfl, HG2.out⟩
end Go.Proofs.YtgidhfcnjboieaaDoor
