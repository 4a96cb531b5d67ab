/- FnExactTapeAdd, walked. -/
import Derived.Test.YtlnngamhjinpbaaDoorT4
import Derived.Test.YtlnngamhjinpbaaDoorP9
namespace Go.Proofs.YtlnngamhjinpbaaDoor
open Go.RowKit

/-- what is safe, and what is loose, behind a record more; nothing, if it is not let -/
def tapS (ss ls : List ByteArray) (r : ByteArray) : List ByteArray := if AddB ss ls r = true then ss else []
def tapL (ss ls : List ByteArray) (r : ByteArray) : List ByteArray := if AddB ss ls r = true then ls ++ [pieceT r] else []
theorem iadd_any (w : World) (hw : Tabs w) (hp : Pow w) (b1 b2 : Nat) (a1 a2 : Option Addr) (c1 c2 : Nat) (ss ls : List ByteArray) (r : ByteArray) (h1 : Lies w b1 a1 ss) (h2 : Lies w b2 a2 ls) (n1 : ss.length ≤ 1048576) (n2 : ls.length ≤ 1048576) (z1 : ∀ s ∈ ss, s.size ≤ 1048576) (z2 : ∀ s ∈ ls, s.size ≤ 1048576) :
    Calls Tryd.prog 11 #[.agg #[.slice a1 ss.length c1, .slice a2 ls.length c2], .string r] w fun e w' => ∃ v1 v2, e = .returned (.tuple #[.agg #[v1, v2], .bool (AddB ss ls r)]) ∧ Row w' w.heap.size v1 (strs (tapS ss ls r)) ∧ Row w' w.heap.size v2 (strs (tapL ss ls r)) ∧ (∀ q, v1.ownBlock = some q → v2.ownBlock ≠ some q) ∧ w.grownBy w' none := by
  unfold tapS tapL
  cases hb : AddB ss ls r with
  | false =>
    refine (iadd_no w a1 a2 c1 c2 ss ls r n1 n2 hb).mono ?_
    rintro e w' ⟨rfl, hg⟩
    exact ⟨_, _, rfl, Row.nil _ _, Row.nil _ _, fun q hq => by simp [Value.ownBlock] at hq, hg⟩
  | true => exact iadd_yes w hw hp b1 b2 a1 a2 c1 c2 ss ls r h1 h2 n1 n2 z1 z2 hb
theorem sadd_any (w : World) (gs cs gl cl : Nat) (ss ls : List ByteArray) (r : ByteArray) (hs : At w ⟨gs, 0, none⟩ ss) (hl : At w ⟨gl, 0, none⟩ ls) (n1 : ss.length ≤ 1048576) (n2 : ls.length ≤ 1048576) :
    Calls Tryd.prog 9 #[.agg #[.slice (some ⟨gs, 0, none⟩) ss.length cs, .slice (some ⟨gl, 0, none⟩) ls.length cl], .string r] w fun e w' => ∃ v1 v2, e = .returned (.tuple #[.agg #[v1, v2], .bool (AddB ss ls r)]) ∧ Row w' w.heap.size v1 (strs (tapS ss ls r)) ∧ Row w' w.heap.size v2 (strs (tapL ss ls r)) ∧ (∀ q, v1.ownBlock = some q → v2.ownBlock ≠ some q) ∧ w.grownBy w' none := by
  unfold tapS tapL
  cases hb : AddB ss ls r with
  | false =>
    refine (sadd_no w _ _ cs cl ss ls r n1 n2 hb).mono ?_
    rintro e w' ⟨rfl, hg⟩
    exact ⟨_, _, rfl, Row.nil _ _, Row.nil _ _, fun q hq => by simp [Value.ownBlock] at hq, hg⟩
  | true => exact sadd_yes w gs cs gl cl ss ls r hs hl n1 n2 hb
theorem add_len (ss ls : List ByteArray) (r : ByteArray) : (tapS ss ls r).length ≤ 1048576 ∧ (tapL ss ls r).length ≤ 1048576 := by
  unfold tapS tapL
  by_cases hb : AddB ss ls r = true
  · rw [if_pos hb, if_pos hb]
    obtain ⟨-, h⟩ : r.size ≤ 2000 ∧ ss.length + ls.length < 220 := by unfold AddB at hb; simpa using hb
    simp
    omega
  · rw [if_neg hb, if_neg hb]
    simp
theorem bulkS_at2 (ss : List ByteArray) (s : ByteArray) (h : s ∈ ss) : s.size ≤ bulkS ss := by
  induction ss with
  | nil => cases h
  | cons x xs ih =>
    rcases List.mem_cons.1 h with rfl | h
    · simp [bulkS]
    · have := ih h
      simp [bulkS]; omega

set_option maxRecDepth 100000 in
set_option maxHeartbeats 16000000 in
theorem exactTapeAdd_walk (w : World) (hw : Tabs w) (hp : Pow w) (a1 a2 : Option Addr) (c1 c2 : Nat) (ss ls : List ByteArray) (r : ByteArray) (h1 : Lies w 0 a1 ss) (h2 : Lies w 0 a2 ls) (n1 : ss.length ≤ 9223372036854775807) (n2 : ls.length ≤ 9223372036854775807) (z1 : ∀ s ∈ ss, s.size ≤ 9223372036854775807) (z2 : ∀ s ∈ ls, s.size ≤ 9223372036854775807) :
    Calls Tryd.prog 3 #[.agg #[.slice a1 ss.length c1, .slice a2 ls.length c2], .string r] w fun e w' => e = .returned (.bool true) ∧ w.grownBy w' none := by
  have HGA := Lib.hid (show w.grownBy (w.alloc (Obj.cells #[Value.slice a1 ss.length c1, .slice a2 ls.length c2] 24)) none from grown_alloc (grown_refl _ _) _)
  have HA := Lib.hid (Blk.new w 24 [Value.slice a1 ss.length c1, .slice a2 ls.length c2])
  by_cases hbig : (1048576 : Int) < r.size
  · go_enter Tryd.func3, Tryd.ntmps3
    go_wp2
    go_ret
    exact ⟨rfl, HGA.out⟩
  have HSZ := Lib.hid (szTape_any (w.alloc (Obj.cells #[Value.slice a1 ss.length c1, .slice a2 ls.length c2] 24)) a1 a2 c1 c2 ss ls (h1.kept HGA.out (fun q e => by cases e)) (h2.kept HGA.out (fun q e => by cases e)) n1 n2 z1 z2)
  have H1 := Lib.hid h1
  have H2 := Lib.hid h2
  have HT := Lib.hid hw
  have HP := Lib.hid hp
  clear h1 h2 z1 z2 n1 n2 hw hp
  obtain ⟨A, hA⟩ : ∃ A, w.heap.size = A := ⟨_, rfl⟩
  rw [hA] at HA
  have HAE := Lib.hid hA
  go_enter Tryd.func3, Tryd.ntmps3
  go_wp2_with fail
  clear hA
  refine HSZ.out.mono ?_
  rintro e w0 ⟨k, rfl, hr, hg⟩
  have HG0 := Lib.hid (grown_trans HGA.out hg)
  have HA0 := Lib.hid (HA.out.kept hg (by simp))
  clear hg HSZ HA HGA
  rcases hr with hr | ⟨hr0, hbu⟩
  · go_wp2
    go_ret
    exact ⟨rfl, HG0.out⟩
  have hr' : ¬ k < 0 := by omega
  have n1 : ss.length ≤ 1048576 := by omega
  have n2 : ls.length ≤ 1048576 := by omega
  have HZ1 := Lib.hid (show ∀ s ∈ ss, s.size ≤ 1048576 from fun s hs => by have := bulkS_at2 ss s hs; omega)
  have HZ2 := Lib.hid (show ∀ s ∈ ls, s.size ≤ 1048576 from fun s hs => by have := bulkS_at2 ls s hs; omega)
  have HTO := Lib.hid (fun (W : World) (hW : w.grownBy W none) => toTape_any W 0 0 a1 a2 c1 c2 ss ls (H1.out.kept hW (fun q e => by cases e)) (H2.out.kept hW (fun q e => by cases e)) n1 n2)
  have HSA := Lib.hid (fun (W : World) (g1 g2 : Nat) (k1 : At W ⟨g1, 0, none⟩ ss) (k2 : At W ⟨g2, 0, none⟩ ls) => sadd_any W g1 ss.length g2 ls.length ss ls r k1 k2 n1 n2)
  have HIA := Lib.hid (fun (W : World) (hW : w.grownBy W none) (g1 g2 : Nat) (k1 : Blk W g1 9 (strs ss)) (k2 : Blk W g2 9 (strs ls)) => iadd_any W (HT.out.grown hW) (HP.out.grown hW) _ _ _ _ ss.length ls.length ss ls r k1.lies k2.lies n1 n2 HZ1.out HZ2.out)
  obtain ⟨nA, nB⟩ := add_len ss ls r
  generalize tapS ss ls r = SS at HSA HIA nA
  generalize tapL ss ls r = LL at HSA HIA nB
  generalize AddB ss ls r = bb at HSA HIA
  clear hbu HT HP hbig HZ1 HZ2
  have cA0 : w0.cell? ⟨A, 0, none⟩ = some (.slice a1 ss.length c1) := HA0.out.cell rfl
  have cA1 : w0.cell? ⟨A, 1, none⟩ = some (.slice a2 ls.length c2) := HA0.out.cell rfl
  go_wp2_with fail
  refine (HTO.out w0 HG0.out).mono ?_
  rintro e w1 ⟨g1, g2, rfl, hq1, hq2, hb1, hb2, hg⟩
  have HG1 := Lib.hid (grown_trans HG0.out hg)
  have HA1 := Lib.hid (HA0.out.kept hg (by simp))
  have HC := Lib.hid (HSA.out w1 g1 g2 hb1.at hb2.at)
  clear hq1 hq2 hb1 hb2
  clear HA0 cA0 cA1 hg
  go_wp2_with fail
  refine (HC.out).mono ?_
  rintro e w2 ⟨u1, u2, rfl, hr1, hr2, hd, hg⟩
  have HG2 := Lib.hid (grown_trans HG1.out hg)
  have HA2 := Lib.hid (HA1.out.kept hg (by simp))
  have HU1 := Lib.hid (hr1.base (Nat.zero_le _))
  have HU2 := Lib.hid (hr2.base (Nat.zero_le _))
  obtain ⟨an1, cn1, rfl, -⟩ := hr1.lies
  obtain ⟨an2, cn2, rfl, -⟩ := hr2.lies
  have HQU := Lib.hid (show ∀ q, (Value.slice an1 SS.length cn1).ownBlock = some q ∨ (Value.slice an2 LL.length cn2).ownBlock = some q → q < w2.heap.size from fun q hq => by rcases hq with hq | hq; (exact (hr1.lt q hq).2); (exact (hr2.lt q hq).2))
  clear hr1 hr2 hd HC
  clear HA1 hg
  have hAW0 : A < w2.heap.size := HA2.out.lt
  obtain ⟨aw2, haw2⟩ : ∃ x, (w2.alloc (Obj.cells #[Value.slice an1 SS.length cn1, Value.slice an2 LL.length cn2] 26)) = x := ⟨_, rfl⟩
  have HGaw2 := Lib.hid (show w.grownBy aw2 none from by rw [← haw2]; exact grown_alloc HG2.out _)
  have HAaw2 := Lib.hid (show Blk aw2 A 24 [Value.slice a1 ss.length c1, .slice a2 ls.length c2] from by rw [← haw2]; exact HA2.out.kept (World.grownBy_alloc _ _ none) (by simp))
  clear HA2
  have HU1aw2 := Lib.hid (show Row aw2 0 (.slice an1 SS.length cn1) (strs SS) from by rw [← haw2]; exact HU1.out.kept (World.grownBy_alloc _ _ none) (by simp))
  clear HU1
  have HU2aw2 := Lib.hid (show Row aw2 0 (.slice an2 LL.length cn2) (strs LL) from by rw [← haw2]; exact HU2.out.kept (World.grownBy_alloc _ _ none) (by simp))
  clear HU2
  obtain ⟨BW, hBW⟩ : ∃ x, w2.heap.size = x := ⟨_, rfl⟩
  have HWaw2 := Lib.hid (show Blk aw2 BW 26 [Value.slice an1 SS.length cn1, Value.slice an2 LL.length cn2] from by rw [← haw2, ← hBW]; exact Blk.new w2 26 _)
  have HEaw2 := Lib.hid haw2
  have HBW := Lib.hid hBW
  clear haw2 hBW
  have hAW : A < BW := by rw [← HBW.out]; exact hAW0
  clear hAW0
  have cA0 : (w2.alloc (Obj.cells #[Value.slice an1 SS.length cn1, Value.slice an2 LL.length cn2] 26)).cell? ⟨A, 0, none⟩ = some (.slice a1 ss.length c1) := by rw [HEaw2.out]; exact HAaw2.out.cell rfl
  have cA1 : (w2.alloc (Obj.cells #[Value.slice an1 SS.length cn1, Value.slice an2 LL.length cn2] 26)).cell? ⟨A, 1, none⟩ = some (.slice a2 ls.length c2) := by rw [HEaw2.out]; exact HAaw2.out.cell rfl
  go_wp2_with fail
  rw [HEaw2.out, HBW.out]
  refine (HTO.out aw2 HGaw2.out).mono ?_
  rintro e w3 ⟨x1, x2, rfl, hq1, hq2, hb1, hb2, hg⟩
  have HG3 := Lib.hid (grown_trans HGaw2.out hg)
  have HA3 := Lib.hid (HAaw2.out.kept hg (by simp))
  have HU13 := Lib.hid (HU1aw2.out.kept hg (by simp))
  have HU23 := Lib.hid (HU2aw2.out.kept hg (by simp))
  have HW3 := Lib.hid (HWaw2.out.kept hg (by simp))
  have HX1 := Lib.hid hb1
  have HX2 := Lib.hid hb2
  have hx1 := hq1
  have hx12 := hq2
  have hx2l : x2 < w3.heap.size := hb2.lt
  have hBWx : BW < x1 := by have h1 := HWaw2.out.lt; omega
  clear hq1 hq2 hb1 hb2
  clear HAaw2 HU1aw2 HU2aw2 HWaw2 cA0 cA1 hg
  obtain ⟨aw3, haw3⟩ : ∃ x, (w3.alloc (Obj.cells #[Value.slice (some ⟨x1, 0, none⟩) ss.length ss.length, Value.slice (some ⟨x2, 0, none⟩) ls.length ls.length] 26)) = x := ⟨_, rfl⟩
  have HGaw3 := Lib.hid (show w.grownBy aw3 none from by rw [← haw3]; exact grown_alloc HG3.out _)
  have HAaw3 := Lib.hid (show Blk aw3 A 24 [Value.slice a1 ss.length c1, .slice a2 ls.length c2] from by rw [← haw3]; exact HA3.out.kept (World.grownBy_alloc _ _ none) (by simp))
  clear HA3
  have HU1aw3 := Lib.hid (show Row aw3 0 (.slice an1 SS.length cn1) (strs SS) from by rw [← haw3]; exact HU13.out.kept (World.grownBy_alloc _ _ none) (by simp))
  clear HU13
  have HU2aw3 := Lib.hid (show Row aw3 0 (.slice an2 LL.length cn2) (strs LL) from by rw [← haw3]; exact HU23.out.kept (World.grownBy_alloc _ _ none) (by simp))
  clear HU23
  have HWaw3 := Lib.hid (show Blk aw3 BW 26 [Value.slice an1 SS.length cn1, Value.slice an2 LL.length cn2] from by rw [← haw3]; exact HW3.out.kept (World.grownBy_alloc _ _ none) (by simp))
  clear HW3
  have HX1aw3 := Lib.hid (show Blk aw3 x1 9 (strs ss) from by rw [← haw3]; exact HX1.out.kept (World.grownBy_alloc _ _ none) (by simp))
  clear HX1
  have HX2aw3 := Lib.hid (show Blk aw3 x2 9 (strs ls) from by rw [← haw3]; exact HX2.out.kept (World.grownBy_alloc _ _ none) (by simp))
  clear HX2
  obtain ⟨BX, hBX⟩ : ∃ x, w3.heap.size = x := ⟨_, rfl⟩
  have HXaw3 := Lib.hid (show Blk aw3 BX 26 [Value.slice (some ⟨x1, 0, none⟩) ss.length ss.length, Value.slice (some ⟨x2, 0, none⟩) ls.length ls.length] from by rw [← haw3, ← hBX]; exact Blk.new w3 26 _)
  have HEaw3 := Lib.hid haw3
  have HBX := Lib.hid hBX
  clear haw3 hBX
  have HC := Lib.hid (HIA.out aw3 HGaw3.out x1 x2 HX1aw3.out HX2aw3.out)
  have hBX : x2 < BX := by have := HBX.out; omega
  go_wp2_with fail
  rw [HEaw3.out, HBX.out]
  refine (HC.out).mono ?_
  rintro e w4 ⟨v1, v2, rfl, hr1, hr2, hd, hg⟩
  have HG4 := Lib.hid (grown_trans HGaw3.out hg)
  have HA4 := Lib.hid (HAaw3.out.kept hg (by simp))
  have HU14 := Lib.hid (HU1aw3.out.kept hg (by simp))
  have HU24 := Lib.hid (HU2aw3.out.kept hg (by simp))
  have HW4 := Lib.hid (HWaw3.out.kept hg (by simp))
  have HX14 := Lib.hid (HX1aw3.out.kept hg (by simp))
  have HX24 := Lib.hid (HX2aw3.out.kept hg (by simp))
  have HX4 := Lib.hid (HXaw3.out.kept hg (by simp))
  have HV1 := Lib.hid hr1
  have HV2 := Lib.hid hr2
  have HVD := Lib.hid hd
  obtain ⟨bn1, dn1, rfl, -⟩ := hr1.lies
  obtain ⟨bn2, dn2, rfl, -⟩ := hr2.lies
  have HQV := Lib.hid (show ∀ q, (Value.slice bn1 SS.length dn1).ownBlock = some q ∨ (Value.slice bn2 LL.length dn2).ownBlock = some q → BX < q ∧ q < w4.heap.size from fun q hq => by have h0 : BX < aw3.heap.size := HXaw3.out.lt; rcases hq with hq | hq; (have := hr1.lt q hq; omega); (have := hr2.lt q hq; omega))
  have HSZ4 := Lib.hid (show BX < w4.heap.size from by have h0 : BX < aw3.heap.size := HXaw3.out.lt; have h1 := hg.size; omega)
  clear hr1 hr2 hd HC
  clear HAaw3 HU1aw3 HU2aw3 HWaw3 HX1aw3 HX2aw3 HXaw3 hg
  obtain ⟨aw4, haw4⟩ : ∃ x, (w4.alloc (Obj.cells #[Value.slice bn1 SS.length dn1, Value.slice bn2 LL.length dn2] 26)) = x := ⟨_, rfl⟩
  have HGaw4 := Lib.hid (show w.grownBy aw4 none from by rw [← haw4]; exact grown_alloc HG4.out _)
  have HAaw4 := Lib.hid (show Blk aw4 A 24 [Value.slice a1 ss.length c1, .slice a2 ls.length c2] from by rw [← haw4]; exact HA4.out.kept (World.grownBy_alloc _ _ none) (by simp))
  clear HA4
  have HU1aw4 := Lib.hid (show Row aw4 0 (.slice an1 SS.length cn1) (strs SS) from by rw [← haw4]; exact HU14.out.kept (World.grownBy_alloc _ _ none) (by simp))
  clear HU14
  have HU2aw4 := Lib.hid (show Row aw4 0 (.slice an2 LL.length cn2) (strs LL) from by rw [← haw4]; exact HU24.out.kept (World.grownBy_alloc _ _ none) (by simp))
  clear HU24
  have HWaw4 := Lib.hid (show Blk aw4 BW 26 [Value.slice an1 SS.length cn1, Value.slice an2 LL.length cn2] from by rw [← haw4]; exact HW4.out.kept (World.grownBy_alloc _ _ none) (by simp))
  clear HW4
  have HX1aw4 := Lib.hid (show Blk aw4 x1 9 (strs ss) from by rw [← haw4]; exact HX14.out.kept (World.grownBy_alloc _ _ none) (by simp))
  clear HX14
  have HX2aw4 := Lib.hid (show Blk aw4 x2 9 (strs ls) from by rw [← haw4]; exact HX24.out.kept (World.grownBy_alloc _ _ none) (by simp))
  clear HX24
  have HXaw4 := Lib.hid (show Blk aw4 BX 26 [Value.slice (some ⟨x1, 0, none⟩) ss.length ss.length, Value.slice (some ⟨x2, 0, none⟩) ls.length ls.length] from by rw [← haw4]; exact HX4.out.kept (World.grownBy_alloc _ _ none) (by simp))
  clear HX4
  have HV1aw4 := Lib.hid (show Row aw4 aw3.heap.size (.slice bn1 SS.length dn1) (strs SS) from by rw [← haw4]; exact HV1.out.kept (World.grownBy_alloc _ _ none) (by simp))
  clear HV1
  have HV2aw4 := Lib.hid (show Row aw4 aw3.heap.size (.slice bn2 LL.length dn2) (strs LL) from by rw [← haw4]; exact HV2.out.kept (World.grownBy_alloc _ _ none) (by simp))
  clear HV2
  obtain ⟨BJ, hBJ⟩ : ∃ x, w4.heap.size = x := ⟨_, rfl⟩
  have HJaw4 := Lib.hid (show Blk aw4 BJ 26 [Value.slice bn1 SS.length dn1, Value.slice bn2 LL.length dn2] from by rw [← haw4, ← hBJ]; exact Blk.new w4 26 _)
  have HEaw4 := Lib.hid haw4
  have HBJ := Lib.hid hBJ
  clear haw4 hBJ
  have hBJ : BX < BJ := by have h0 := HBJ.out; have h1 := HSZ4.out; omega
  have cW0 : (w4.alloc (Obj.cells #[Value.slice bn1 SS.length dn1, Value.slice bn2 LL.length dn2] 26)).cell? ⟨BW, 0, none⟩ = some (.slice an1 SS.length cn1) := by rw [HEaw4.out]; exact HWaw4.out.cell rfl
  have cW1 : (w4.alloc (Obj.cells #[Value.slice bn1 SS.length dn1, Value.slice bn2 LL.length dn2] 26)).cell? ⟨BW, 1, none⟩ = some (.slice an2 LL.length cn2) := by rw [HEaw4.out]; exact HWaw4.out.cell rfl
  obtain ⟨ao', co', hv', lV1⟩ := HV1aw4.out.lies
  cases hv'
  obtain ⟨ao', co', hv', lV2⟩ := HV2aw4.out.lies
  cases hv'
  obtain ⟨ao', co', hv', lU1⟩ := HU1aw4.out.lies
  cases hv'
  obtain ⟨ao', co', hv', lU2⟩ := HU2aw4.out.lies
  cases hv'
  have HE := Lib.hid (eqTape_any aw4 _ _ _ _ bn1 bn2 an1 an2 dn1 dn2 cn1 cn2 SS LL lV1 lV2 lU1 lU2 nA nB)
  clear lV1 lV2 lU1 lU2
  go_wp2_with fail
  rw [HEaw4.out, HBJ.out]
  refine (HE.out).mono ?_
  rintro e w5 ⟨rfl, hg⟩
  have HG5 := Lib.hid (grown_trans HGaw4.out hg)
  have HA5 := Lib.hid (HAaw4.out.kept hg (by simp))
  have HU15 := Lib.hid (HU1aw4.out.kept hg (by simp))
  have HU25 := Lib.hid (HU2aw4.out.kept hg (by simp))
  have HW5 := Lib.hid (HWaw4.out.kept hg (by simp))
  have HX15 := Lib.hid (HX1aw4.out.kept hg (by simp))
  have HX25 := Lib.hid (HX2aw4.out.kept hg (by simp))
  have HX5 := Lib.hid (HXaw4.out.kept hg (by simp))
  have HV15 := Lib.hid (HV1aw4.out.kept hg (by simp))
  have HV25 := Lib.hid (HV2aw4.out.kept hg (by simp))
  have HJ5 := Lib.hid (HJaw4.out.kept hg (by simp))
  clear HE
  clear HAaw4 HU1aw4 HU2aw4 HWaw4 HX1aw4 HX2aw4 HXaw4 HV1aw4 HV2aw4 HJaw4 cW0 cW1 hg
  have HSR := Lib.hid (show w5.drew.cell? ⟨BX, 0, none⟩ = some (.slice (some ⟨x1, 0, none⟩) ss.length ss.length) ∧ w5.drew.cell? ⟨BX, 1, none⟩ = some (.slice (some ⟨x2, 0, none⟩) ls.length ls.length) ∧ w5.drew.cell? ⟨A, 0, none⟩ = some (.slice a1 ss.length c1) ∧ w5.drew.cell? ⟨A, 1, none⟩ = some (.slice a2 ls.length c2) ∧ w5.grownBy w5.drew none from ⟨HX5.out.cell rfl, HX5.out.cell rfl, HA5.out.cell rfl, HA5.out.cell rfl, grown_drew (grown_refl _ _)⟩)
  have HTR := Lib.hid (fun (W : World) (hW : W.cell? ⟨BX, 0, none⟩ = some (.slice (some ⟨x1, 0, none⟩) ss.length ss.length) ∧ W.cell? ⟨BX, 1, none⟩ = some (.slice (some ⟨x2, 0, none⟩) ls.length ls.length) ∧ W.cell? ⟨A, 0, none⟩ = some (.slice a1 ss.length c1) ∧ W.cell? ⟨A, 1, none⟩ = some (.slice a2 ls.length c2) ∧ w5.grownBy W none) => (HTO.out W (grown_trans HG5.out hW.2.2.2.2)).mono (R' := fun e w' => ∃ y1 y2, e = .returned (.agg #[.slice (some ⟨y1, 0, none⟩) ss.length ss.length, .slice (some ⟨y2, 0, none⟩) ls.length ls.length]) ∧ (w'.cell? ⟨BX, 0, none⟩ = some (.slice (some ⟨x1, 0, none⟩) ss.length ss.length) ∧ w'.cell? ⟨BX, 1, none⟩ = some (.slice (some ⟨x2, 0, none⟩) ls.length ls.length) ∧ w'.cell? ⟨A, 0, none⟩ = some (.slice a1 ss.length c1) ∧ w'.cell? ⟨A, 1, none⟩ = some (.slice a2 ls.length c2) ∧ w5.grownBy w' none) ∧ Blk w' y1 9 (strs ss) ∧ Blk w' y2 9 (strs ls)) (fun e w' ⟨y1, y2, q1, _, _, q4, q5, q6⟩ => ⟨y1, y2, q1, ⟨q6.cell hW.1 (by simp), q6.cell hW.2.1 (by simp), q6.cell hW.2.2.1 (by simp), q6.cell hW.2.2.2.1 (by simp), grown_trans hW.2.2.2.2 q6⟩, q4, q5⟩))
  have HER := Lib.hid (fun (W : World) (y1 y2 : Nat) (hW : W.cell? ⟨BX, 0, none⟩ = some (.slice (some ⟨x1, 0, none⟩) ss.length ss.length) ∧ W.cell? ⟨BX, 1, none⟩ = some (.slice (some ⟨x2, 0, none⟩) ls.length ls.length) ∧ W.cell? ⟨A, 0, none⟩ = some (.slice a1 ss.length c1) ∧ W.cell? ⟨A, 1, none⟩ = some (.slice a2 ls.length c2) ∧ w5.grownBy W none) (k1 : Blk W y1 9 (strs ss)) (k2 : Blk W y2 9 (strs ls)) => (eqTape_any W _ _ _ _ _ _ _ _ ss.length ls.length ss.length ls.length ss ls (HX15.out.kept hW.2.2.2.2 (by simp)).lies (HX25.out.kept hW.2.2.2.2 (by simp)).lies k1.lies k2.lies n1 n2).mono (R' := fun e w' => e = .returned (.bool true) ∧ (w'.cell? ⟨BX, 0, none⟩ = some (.slice (some ⟨x1, 0, none⟩) ss.length ss.length) ∧ w'.cell? ⟨BX, 1, none⟩ = some (.slice (some ⟨x2, 0, none⟩) ls.length ls.length) ∧ w'.cell? ⟨A, 0, none⟩ = some (.slice a1 ss.length c1) ∧ w'.cell? ⟨A, 1, none⟩ = some (.slice a2 ls.length c2) ∧ w5.grownBy w' none)) (fun e w' ⟨q1, q6⟩ => ⟨q1, q6.cell hW.1 (by simp), q6.cell hW.2.1 (by simp), q6.cell hW.2.2.1 (by simp), q6.cell hW.2.2.2.1 (by simp), grown_trans hW.2.2.2.2 q6⟩))
  go_wp2
  go_region_held3 (fun W => W.cell? ⟨BX, 0, none⟩ = some (.slice (some ⟨x1, 0, none⟩) ss.length ss.length) ∧ W.cell? ⟨BX, 1, none⟩ = some (.slice (some ⟨x2, 0, none⟩) ls.length ls.length) ∧ W.cell? ⟨A, 0, none⟩ = some (.slice a1 ss.length c1) ∧ W.cell? ⟨A, 1, none⟩ = some (.slice a2 ls.length c2) ∧ w5.grownBy W none) (first | assumption | exact HSR.out)
    (first
      | (go_at_call 10; refine (HTR.out _ (by assumption)).mono ?_; rintro e wa ⟨y1, y2, rfl, hSa, hy1, hy2⟩; have HY1 := Lib.hid hy1; have HY2 := Lib.hid hy2; clear hy1 hy2)
      | (go_at_call 12; refine (HER.out _ y1 y2 (by assumption) HY1.out HY2.out).mono ?_; rintro e wb ⟨rfl, hSb⟩; have HSB := Lib.hid hSb))
  have hg := HSB.out.2.2.2.2
  have HG6 := Lib.hid (grown_trans HG5.out hg)
  have HA6 := Lib.hid (HA5.out.kept hg (by simp))
  have HU16 := Lib.hid (HU15.out.kept hg (by simp))
  have HU26 := Lib.hid (HU25.out.kept hg (by simp))
  have HW6 := Lib.hid (HW5.out.kept hg (by simp))
  have HX16 := Lib.hid (HX15.out.kept hg (by simp))
  have HX26 := Lib.hid (HX25.out.kept hg (by simp))
  have HX6 := Lib.hid (HX5.out.kept hg (by simp))
  have HV16 := Lib.hid (HV15.out.kept hg (by simp))
  have HV26 := Lib.hid (HV25.out.kept hg (by simp))
  have HJ6 := Lib.hid (HJ5.out.kept hg (by simp))
  clear HA5 HU15 HU25 HW5 HX15 HX25 HX5 HV15 HV25 HJ5 hg hSa hSb HSB HSR HTR HER HY1 HY2
  have HMX := Lib.hid (markTape_any wb 0 (some ⟨x1, 0, none⟩) (some ⟨x2, 0, none⟩) ss.length ls.length ss ls (HX16.out.row 0 (Nat.zero_le _)) (HX26.out.row 0 (Nat.zero_le _)) (fun q hq e => by simp [Value.ownBlock] at hq e; omega) n1 n2)
  have HOX := Lib.hid (show ∀ q, Own2 (.slice (some ⟨x1, 0, none⟩) ss.length ss.length) (.slice (some ⟨x2, 0, none⟩) ls.length ls.length) q → q = x1 ∨ q = x2 from fun q hq => by
    rcases hq with h | h
    · simp [Value.ownBlock] at h; exact .inl h.symm
    · simp [Value.ownBlock] at h; exact .inr h.symm)
  have cX0 : wb.cell? ⟨BX, 0, none⟩ = some (.slice (some ⟨x1, 0, none⟩) ss.length ss.length) := HX6.out.cell rfl
  have cX1 : wb.cell? ⟨BX, 1, none⟩ = some (.slice (some ⟨x2, 0, none⟩) ls.length ls.length) := HX6.out.cell rfl
  go_wp2_with fail
  refine (HMX.out).mono ?_
  rintro e w7 ⟨rfl, -, -, hg⟩
  have HG7 := Lib.hid (Fr.grown HG6.out hg (fun i hi h => by have h0 := HAE.out; rcases HOX.out i h with h | h <;> omega))
  have HA7 := Lib.hid (hg.blk HA6.out (fun h => by have h0 := HAE.out; rcases HOX.out _ h with h | h <;> omega))
  have HU17 := Lib.hid (hg.row HU16.out (fun q hq h => by have h0 := HQU.out q (.inl hq); have h1 := HBW.out; rcases HOX.out _ h with h | h <;> omega))
  have HU27 := Lib.hid (hg.row HU26.out (fun q hq h => by have h0 := HQU.out q (.inr hq); have h1 := HBW.out; rcases HOX.out _ h with h | h <;> omega))
  have HW7 := Lib.hid (hg.blk HW6.out (fun h => by have h0 := HAE.out; rcases HOX.out _ h with h | h <;> omega))
  have HX7 := Lib.hid (hg.blk HX6.out (fun h => by have h0 := HAE.out; rcases HOX.out _ h with h | h <;> omega))
  have HV17 := Lib.hid (hg.row HV16.out (fun q hq h => by have h0 := HQV.out q (.inl hq); rcases HOX.out _ h with h | h <;> omega))
  have HV27 := Lib.hid (hg.row HV26.out (fun q hq h => by have h0 := HQV.out q (.inr hq); rcases HOX.out _ h with h | h <;> omega))
  have HJ7 := Lib.hid (hg.blk HJ6.out (fun h => by have h0 := HAE.out; rcases HOX.out _ h with h | h <;> omega))
  obtain ⟨KX, hKX⟩ : ∃ K, K = 1 + ss.length + ls.length := ⟨_, rfl⟩
  rw [← hKX]
  have kx : ¬ (KX : Int) < 0 := by omega
  clear hKX HMX
  clear HA6 HU16 HU26 HW6 HX6 HV16 HV26 HJ6 cX0 cX1 hg
  have cJ0 : w7.cell? ⟨BJ, 0, none⟩ = some (.slice bn1 SS.length dn1) := HJ7.out.cell rfl
  have cJ1 : w7.cell? ⟨BJ, 1, none⟩ = some (.slice bn2 LL.length dn2) := HJ7.out.cell rfl
  have cW0 : w7.cell? ⟨BW, 0, none⟩ = some (.slice an1 SS.length cn1) := HW7.out.cell rfl
  have cW1 : w7.cell? ⟨BW, 1, none⟩ = some (.slice an2 LL.length cn2) := HW7.out.cell rfl
  obtain ⟨ao', co', hv', lV1⟩ := HV17.out.lies
  cases hv'
  obtain ⟨ao', co', hv', lV2⟩ := HV27.out.lies
  cases hv'
  obtain ⟨ao', co', hv', lU1⟩ := HU17.out.lies
  cases hv'
  obtain ⟨ao', co', hv', lU2⟩ := HU27.out.lies
  cases hv'
  have HE := Lib.hid (eqTape_any w7 _ _ _ _ bn1 bn2 an1 an2 dn1 dn2 cn1 cn2 SS LL lV1 lV2 lU1 lU2 nA nB)
  clear lV1 lV2 lU1 lU2
  go_wp2_with fail
  refine (HE.out).mono ?_
  rintro e w8 ⟨rfl, hg⟩
  have HG8 := Lib.hid (grown_trans HG7.out hg)
  have HA8 := Lib.hid (HA7.out.kept hg (by simp))
  have HU18 := Lib.hid (HU17.out.kept hg (by simp))
  have HU28 := Lib.hid (HU27.out.kept hg (by simp))
  have HW8 := Lib.hid (HW7.out.kept hg (by simp))
  have HX8 := Lib.hid (HX7.out.kept hg (by simp))
  have HV18 := Lib.hid (HV17.out.kept hg (by simp))
  have HV28 := Lib.hid (HV27.out.kept hg (by simp))
  have HJ8 := Lib.hid (HJ7.out.kept hg (by simp))
  clear HE
  clear HA7 HU17 HU27 HW7 HX7 HV17 HV27 HJ7 cJ0 cJ1 cW0 cW1 hg
  have HMG := Lib.hid (markTape_any w8 _ bn1 bn2 dn1 dn2 SS LL HV18.out HV28.out HVD.out nA nB)
  have cJ0 : w8.cell? ⟨BJ, 0, none⟩ = some (.slice bn1 SS.length dn1) := HJ8.out.cell rfl
  have cJ1 : w8.cell? ⟨BJ, 1, none⟩ = some (.slice bn2 LL.length dn2) := HJ8.out.cell rfl
  go_wp2_with fail
  refine (HMG.out).mono ?_
  rintro e w9 ⟨rfl, hm1, hm2, hg⟩
  have HG9 := Lib.hid (Fr.grown HG8.out hg (fun i hi h => by have h0 := HAE.out; have h2 := HQV.out i h; omega))
  have HA9 := Lib.hid (hg.blk HA8.out (fun h => by have h0 := HQV.out _ h; omega))
  have HU19 := Lib.hid (hg.row HU18.out (fun q hq h => by have h0 := HQU.out q (.inl hq); have h1 := HBW.out; have h2 := HQV.out q h; omega))
  have HU29 := Lib.hid (hg.row HU28.out (fun q hq h => by have h0 := HQU.out q (.inr hq); have h1 := HBW.out; have h2 := HQV.out q h; omega))
  have HW9 := Lib.hid (hg.blk HW8.out (fun h => by have h0 := HQV.out _ h; omega))
  have HX9 := Lib.hid (hg.blk HX8.out (fun h => by have h0 := HQV.out _ h; omega))
  have HJ9 := Lib.hid (hg.blk HJ8.out (fun h => by have h0 := HQV.out _ h; have h1 := HBJ.out; omega))
  have HK1 := Lib.hid hm1
  have HK2 := Lib.hid hm2
  clear hm1 hm2 HMG HV18 HV28
  clear HA8 HU18 HU28 HW8 HX8 HJ8 cJ0 cJ1 hg
  have HHE := Lib.hid (fun (W : World) (hW : w9.grownBy W none) => heldTape_any W _ bn1 bn2 SS.length LL.length dn1 dn2 SS.length LL.length (HK1.out.kept hW (by simp)) (HK2.out.kept hW (by simp)) nA nB)
  have HM := Lib.hid (grown_refl w9 none)
  obtain ⟨KM, hKM⟩ : ∃ K, K = 1 + SS.length + LL.length := ⟨_, rfl⟩
  rw [← hKM] at HHE ⊢
  have km : ¬ (KM : Int) < 0 := by omega
  clear hKM HK1 HK2
  have cJ0 : w9.cell? ⟨BJ, 0, none⟩ = some (.slice bn1 SS.length dn1) := HJ9.out.cell rfl
  have cJ1 : w9.cell? ⟨BJ, 1, none⟩ = some (.slice bn2 LL.length dn2) := HJ9.out.cell rfl
  go_wp2_with fail
  refine (HHE.out w9 HM.out).mono ?_
  rintro e w10 ⟨rfl, hg⟩
  have HG10 := Lib.hid (grown_trans HG9.out hg)
  have HA10 := Lib.hid (HA9.out.kept hg (by simp))
  have HU110 := Lib.hid (HU19.out.kept hg (by simp))
  have HU210 := Lib.hid (HU29.out.kept hg (by simp))
  have HW10 := Lib.hid (HW9.out.kept hg (by simp))
  have HX10 := Lib.hid (HX9.out.kept hg (by simp))
  have HJ10 := Lib.hid (HJ9.out.kept hg (by simp))
  have HM10 := Lib.hid (grown_trans HM.out hg)
  clear HA9 HU19 HU29 HW9 HX9 HJ9 HM cJ0 cJ1 hg
  have cA0 : w10.cell? ⟨A, 0, none⟩ = some (.slice a1 ss.length c1) := HA10.out.cell rfl
  have cA1 : w10.cell? ⟨A, 1, none⟩ = some (.slice a2 ls.length c2) := HA10.out.cell rfl
  go_wp2_with fail
  refine (HTO.out w10 HG10.out).mono ?_
  rintro e w11 ⟨y1, y2, rfl, hq1, hq2, hb1, hb2, hg⟩
  have HG11 := Lib.hid (grown_trans HG10.out hg)
  have HA11 := Lib.hid (HA10.out.kept hg (by simp))
  have HU111 := Lib.hid (HU110.out.kept hg (by simp))
  have HU211 := Lib.hid (HU210.out.kept hg (by simp))
  have HW11 := Lib.hid (HW10.out.kept hg (by simp))
  have HX11 := Lib.hid (HX10.out.kept hg (by simp))
  have HJ11 := Lib.hid (HJ10.out.kept hg (by simp))
  have HM11 := Lib.hid (grown_trans HM10.out hg)
  have HY1 := Lib.hid hb1
  have HY2 := Lib.hid hb2
  clear hq1 hq2 hb1 hb2
  clear HA10 HU110 HU210 HW10 HX10 HJ10 HM10 cA0 cA1 hg
  have HC := Lib.hid (HIA.out w11 HG11.out y1 y2 HY1.out HY2.out)
  clear HY1 HY2
  go_wp2_with fail
  refine (HC.out).mono ?_
  rintro e w12 ⟨k1, k2, rfl, hr1, hr2, -, hg⟩
  have HG12 := Lib.hid (grown_trans HG11.out hg)
  have HA12 := Lib.hid (HA11.out.kept hg (by simp))
  have HU112 := Lib.hid (HU111.out.kept hg (by simp))
  have HU212 := Lib.hid (HU211.out.kept hg (by simp))
  have HW12 := Lib.hid (HW11.out.kept hg (by simp))
  have HJ12 := Lib.hid (HJ11.out.kept hg (by simp))
  have HM12 := Lib.hid (grown_trans HM11.out hg)
  have HR1 := Lib.hid hr1
  have HR2 := Lib.hid hr2
  obtain ⟨kn1, ln1, rfl, -⟩ := hr1.lies
  obtain ⟨kn2, ln2, rfl, -⟩ := hr2.lies
  clear hr1 hr2 HC
  clear HA11 HU111 HU211 HW11 HJ11 HM11 hg
  have HK1 := Lib.hid (HR1.out.base (Nat.zero_le _))
  have HK2 := Lib.hid (HR2.out.base (Nat.zero_le _))
  clear HR1 HR2
  obtain ⟨aw12, haw12⟩ : ∃ x, (w12.alloc (Obj.cells #[Value.slice kn1 SS.length ln1, Value.slice kn2 LL.length ln2] 26)) = x := ⟨_, rfl⟩
  have HGaw12 := Lib.hid (show w.grownBy aw12 none from by rw [← haw12]; exact grown_alloc HG12.out _)
  have HU1aw12 := Lib.hid (show Row aw12 0 (.slice an1 SS.length cn1) (strs SS) from by rw [← haw12]; exact HU112.out.kept (World.grownBy_alloc _ _ none) (by simp))
  clear HU112
  have HU2aw12 := Lib.hid (show Row aw12 0 (.slice an2 LL.length cn2) (strs LL) from by rw [← haw12]; exact HU212.out.kept (World.grownBy_alloc _ _ none) (by simp))
  clear HU212
  have HWaw12 := Lib.hid (show Blk aw12 BW 26 [Value.slice an1 SS.length cn1, Value.slice an2 LL.length cn2] from by rw [← haw12]; exact HW12.out.kept (World.grownBy_alloc _ _ none) (by simp))
  clear HW12
  have HJaw12 := Lib.hid (show Blk aw12 BJ 26 [Value.slice bn1 SS.length dn1, Value.slice bn2 LL.length dn2] from by rw [← haw12]; exact HJ12.out.kept (World.grownBy_alloc _ _ none) (by simp))
  clear HJ12
  have HMaw12 := Lib.hid (show w9.grownBy aw12 none from by rw [← haw12]; exact grown_alloc HM12.out _)
  clear HM12
  have HK1aw12 := Lib.hid (show Row aw12 0 (.slice kn1 SS.length ln1) (strs SS) from by rw [← haw12]; exact HK1.out.kept (World.grownBy_alloc _ _ none) (by simp))
  clear HK1
  have HK2aw12 := Lib.hid (show Row aw12 0 (.slice kn2 LL.length ln2) (strs LL) from by rw [← haw12]; exact HK2.out.kept (World.grownBy_alloc _ _ none) (by simp))
  clear HK2
  obtain ⟨BZ, hBZ⟩ : ∃ x, w12.heap.size = x := ⟨_, rfl⟩
  have HZaw12 := Lib.hid (show Blk aw12 BZ 26 [Value.slice kn1 SS.length ln1, Value.slice kn2 LL.length ln2] from by rw [← haw12, ← hBZ]; exact Blk.new w12 26 _)
  have HEaw12 := Lib.hid haw12
  have HBZ := Lib.hid hBZ
  clear haw12 hBZ
  have cW0 : (w12.alloc (Obj.cells #[Value.slice kn1 SS.length ln1, Value.slice kn2 LL.length ln2] 26)).cell? ⟨BW, 0, none⟩ = some (.slice an1 SS.length cn1) := by rw [HEaw12.out]; exact HWaw12.out.cell rfl
  have cW1 : (w12.alloc (Obj.cells #[Value.slice kn1 SS.length ln1, Value.slice kn2 LL.length ln2] 26)).cell? ⟨BW, 1, none⟩ = some (.slice an2 LL.length cn2) := by rw [HEaw12.out]; exact HWaw12.out.cell rfl
  obtain ⟨ao', co', hv', lK1⟩ := HK1aw12.out.lies
  cases hv'
  obtain ⟨ao', co', hv', lK2⟩ := HK2aw12.out.lies
  cases hv'
  obtain ⟨ao', co', hv', lU1⟩ := HU1aw12.out.lies
  cases hv'
  obtain ⟨ao', co', hv', lU2⟩ := HU2aw12.out.lies
  cases hv'
  have HE := Lib.hid (eqTape_any aw12 _ _ _ _ kn1 kn2 an1 an2 ln1 ln2 cn1 cn2 SS LL lK1 lK2 lU1 lU2 nA nB)
  clear lK1 lK2 lU1 lU2
  go_wp2_with fail
  rw [HEaw12.out, HBZ.out]
  refine (HE.out).mono ?_
  rintro e w13 ⟨rfl, hg⟩
  have HG13 := Lib.hid (grown_trans HGaw12.out hg)
  have HU113 := Lib.hid (HU1aw12.out.kept hg (by simp))
  have HU213 := Lib.hid (HU2aw12.out.kept hg (by simp))
  have HW13 := Lib.hid (HWaw12.out.kept hg (by simp))
  have HJ13 := Lib.hid (HJaw12.out.kept hg (by simp))
  have HM13 := Lib.hid (grown_trans HMaw12.out hg)
  have HK113 := Lib.hid (HK1aw12.out.kept hg (by simp))
  have HK213 := Lib.hid (HK2aw12.out.kept hg (by simp))
  have HZ13 := Lib.hid (HZaw12.out.kept hg (by simp))
  clear HE
  clear HU1aw12 HU2aw12 HWaw12 HJaw12 HMaw12 HK1aw12 HK2aw12 HZaw12 cW0 cW1 hg
  have cJ0 : w13.cell? ⟨BJ, 0, none⟩ = some (.slice bn1 SS.length dn1) := HJ13.out.cell rfl
  have cJ1 : w13.cell? ⟨BJ, 1, none⟩ = some (.slice bn2 LL.length dn2) := HJ13.out.cell rfl
  go_wp2_with fail
  refine (HHE.out w13 HM13.out).mono ?_
  rintro e w14 ⟨rfl, hg⟩
  have HG14 := Lib.hid (grown_trans HG13.out hg)
  have HU114 := Lib.hid (HU113.out.kept hg (by simp))
  have HU214 := Lib.hid (HU213.out.kept hg (by simp))
  have HW14 := Lib.hid (HW13.out.kept hg (by simp))
  have HJ14 := Lib.hid (HJ13.out.kept hg (by simp))
  have HM14 := Lib.hid (grown_trans HM13.out hg)
  have HK114 := Lib.hid (HK113.out.kept hg (by simp))
  have HK214 := Lib.hid (HK213.out.kept hg (by simp))
  have HZ14 := Lib.hid (HZ13.out.kept hg (by simp))
  clear HU113 HU213 HW13 HJ13 HM13 HK113 HK213 HZ13 cJ0 cJ1 hg
  go_wp2
  go_ret
  exact ⟨rfl, HG14.out⟩
end Go.Proofs.YtlnngamhjinpbaaDoor
