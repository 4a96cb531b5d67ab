/- FnExactTapeOpen, walked. -/
import Derived.Test.YtgidhfcnjboieaaDoorO5
import Derived.Test.YtgidhfcnjboieaaDoorO6
namespace Go.Proofs.YtgidhfcnjboieaaDoor
open Go.RowKit

theorem bulkS_at3 (ss : List ByteArray) (s : ByteArray) (h : s ∈ ss) : s.size ≤ bulkS ss := by
  induction ss with
  | nil => cases h
  | cons x xs ih =>
    rcases List.mem_cons.1 h with rfl | h
    · simp [bulkS]
    · have := ih h
      simp [bulkS]; omega

set_option maxRecDepth 100000 in
set_option maxHeartbeats 16000000 in
theorem exactTapeOpen_walk (w : World) (hw : Tabs w) (hp : Pow w) (a1 a2 : Option Addr) (c1 c2 : Nat) (ss ls : List ByteArray) (h1 : Lies w 0 a1 ss) (h2 : Lies w 0 a2 ls) (n1 : ss.length ≤ 9223372036854775807) (n2 : ls.length ≤ 9223372036854775807) (z1 : ∀ s ∈ ss, s.size ≤ 9223372036854775807) (z2 : ∀ s ∈ ls, s.size ≤ 9223372036854775807) :
    Calls Tryd.prog 4 #[.agg #[.slice a1 ss.length c1, .slice a2 ls.length c2]] w fun e w' => e = .returned (.bool true) ∧ w.grownBy w' none := by
  have HGA := Lib.hid (show w.grownBy (w.alloc (Obj.cells #[Value.slice a1 ss.length c1, .slice a2 ls.length c2] 31)) none from grown_alloc (grown_refl _ _) _)
  have HA := Lib.hid (Blk.new w 31 [Value.slice a1 ss.length c1, .slice a2 ls.length c2])
  have HSZ := Lib.hid (szTape_any (w.alloc (Obj.cells #[Value.slice a1 ss.length c1, .slice a2 ls.length c2] 31)) a1 a2 c1 c2 ss ls (h1.kept HGA.out (fun q e => by cases e)) (h2.kept HGA.out (fun q e => by cases e)) n1 n2 z1 z2)
  have H1 := Lib.hid h1
  have H2 := Lib.hid h2
  have HT := Lib.hid hw
  have HP := Lib.hid hp
  clear h1 h2 z1 z2 n1 n2 hw hp
  obtain ⟨A, hA⟩ : ∃ A, w.heap.size = A := ⟨_, rfl⟩
  rw [hA] at HA
  have HAE := Lib.hid hA
  go_enter Tryd.func4, Tryd.ntmps4
  go_wp2_with fail
  clear hA
  refine HSZ.out.mono ?_
  rintro e w0 ⟨k, rfl, hr, hg⟩
  have HG0 := Lib.hid (grown_trans HGA.out hg)
  have HA0 := Lib.hid (HA.out.kept hg (by simp))
  clear hg HSZ HA HGA
  rcases hr with hr | ⟨hr0, hbu⟩
  · go_wp2
    go_ret
    exact ⟨rfl, HG0.out⟩
  have hr' : ¬ k < 0 := by omega
  have n1 : ss.length ≤ 1048576 := by omega
  have n2 : ls.length ≤ 1048576 := by omega
  have HZ1 := Lib.hid (show ∀ s ∈ ss, s.size ≤ 1048576 from fun s hs => by have := bulkS_at3 ss s hs; omega)
  have HTO := Lib.hid (fun (W : World) (hW : w.grownBy W none) => toTape_any W 0 0 a1 a2 c1 c2 ss ls (H1.out.kept hW (fun q e => by cases e)) (H2.out.kept hW (fun q e => by cases e)) n1 n2)
  obtain ⟨LL, hLL⟩ : ∃ L : List ByteArray, L = [] := ⟨_, rfl⟩
  have HSA := Lib.hid (fun (W : World) (g1 g2 : Nat) (hl : g1 < W.heap.size) (k1 : At W ⟨g1, 0, none⟩ ss) => (sopen_any W g1 ss.length (some ⟨g2, 0, none⟩) ls.length ls.length ss hl k1 HZ1.out).mono (R' := fun e w' => ∃ u0 u1 u2, e = .returned (.tuple #[u0, .agg #[u1, u2]]) ∧ Row w' W.heap.size u0 (strs ((ss.take (openN ss)).map recT)) ∧ Row w' W.heap.size u1 (strs (ss.take (openN ss))) ∧ Row w' W.heap.size u2 (strs LL) ∧ (∀ q, u0.ownBlock = some q → u1.ownBlock ≠ some q ∧ u2.ownBlock ≠ some q) ∧ (∀ q, u1.ownBlock = some q → u2.ownBlock ≠ some q) ∧ W.grownBy w' none) (fun e w' ⟨x, q1, v, v2, v3, q2, r1, r2, r3, d1, d2, g⟩ => ⟨v, v2, v3, by rw [q1, q2], r1, r2, by rw [hLL]; exact r3, d1, d2, g⟩))
  have HIA := Lib.hid (fun (W : World) (hW : w.grownBy W none) (g1 g2 : Nat) (k1 : Blk W g1 9 (strs ss)) => (iopen_any W (HT.out.grown hW) (HP.out.grown hW) g1 ss.length (some ⟨g2, 0, none⟩) ls.length ls.length ss k1.lt (Nat.le_refl _) k1.at HZ1.out).mono (R' := fun e w' => ∃ u0 u1 u2, e = .returned (.tuple #[u0, .agg #[u1, u2]]) ∧ Row w' W.heap.size u0 (strs ((ss.take (openN ss)).map recT)) ∧ Row w' W.heap.size u1 (strs (ss.take (openN ss))) ∧ Row w' W.heap.size u2 (strs LL) ∧ (∀ q, u0.ownBlock = some q → u1.ownBlock ≠ some q ∧ u2.ownBlock ≠ some q) ∧ (∀ q, u1.ownBlock = some q → u2.ownBlock ≠ some q) ∧ W.grownBy w' none) (fun e w' ⟨x, q1, v, v2, v3, q2, r1, r2, r3, d1, d2, g⟩ => ⟨v, v2, v3, by rw [q1, q2], r1, r2, by rw [hLL]; exact r3, d1, d2, g⟩))
  have nA : (ss.take (openN ss)).length ≤ 1048576 := by simp [openN]; omega
  have nR : ((ss.take (openN ss)).map recT).length ≤ 1048576 := by rw [List.length_map]; exact nA
  have nB : LL.length ≤ 1048576 := by rw [hLL]; simp
  generalize (ss.take (openN ss)).map recT = RR at HSA HIA nR
  generalize ss.take (openN ss) = SS at HSA HIA nA
  clear hbu HT HP HZ1 hLL
  have cA0 : w0.cell? ⟨A, 0, none⟩ = some (.slice a1 ss.length c1) := HA0.out.cell rfl
  have cA1 : w0.cell? ⟨A, 1, none⟩ = some (.slice a2 ls.length c2) := HA0.out.cell rfl
  go_wp2_with fail
  refine (HTO.out w0 HG0.out).mono ?_
  rintro e w1 ⟨g1, g2, rfl, hq1, hq2, hb1, hb2, hg⟩
  have HG1 := Lib.hid (grown_trans HG0.out hg)
  have HA1 := Lib.hid (HA0.out.kept hg (by simp))
  have HC := Lib.hid (HSA.out w1 g1 g2 hb1.lt hb1.at)
  clear hq1 hq2 hb1 hb2
  clear HA0 cA0 cA1 hg
  go_wp2_with fail
  refine (HC.out).mono ?_
  rintro e w2 ⟨u0, u1, u2, rfl, hr0, hr1, hr2, hd, hd2, hg⟩
  have HG2 := Lib.hid (grown_trans HG1.out hg)
  have HA2 := Lib.hid (HA1.out.kept hg (by simp))
  have HU0 := Lib.hid (hr0.base (Nat.zero_le _))
  have HU1 := Lib.hid (hr1.base (Nat.zero_le _))
  have HU2 := Lib.hid (hr2.base (Nat.zero_le _))
  obtain ⟨an0, cn0, rfl, -⟩ := hr0.lies
  obtain ⟨an1, cn1, rfl, -⟩ := hr1.lies
  obtain ⟨an2, cn2, rfl, -⟩ := hr2.lies
  have HQU := Lib.hid (show ∀ q, (Value.slice an0 RR.length cn0).ownBlock = some q ∨ (Value.slice an1 SS.length cn1).ownBlock = some q ∨ (Value.slice an2 LL.length cn2).ownBlock = some q → q < w2.heap.size from fun q hq => by rcases hq with hq | hq | hq; (exact (hr0.lt q hq).2); (exact (hr1.lt q hq).2); (exact (hr2.lt q hq).2))
  clear hr0 hr1 hr2 hd hd2 HC
  clear HA1 hg
  have hAW0 : A < w2.heap.size := HA2.out.lt
  obtain ⟨aw2, haw2⟩ : ∃ x, (w2.alloc (Obj.cells #[Value.slice an1 SS.length cn1, Value.slice an2 LL.length cn2] 25)) = x := ⟨_, rfl⟩
  have HGaw2 := Lib.hid (show w.grownBy aw2 none from by rw [← haw2]; exact grown_alloc HG2.out _)
  have HAaw2 := Lib.hid (show Blk aw2 A 31 [Value.slice a1 ss.length c1, .slice a2 ls.length c2] from by rw [← haw2]; exact HA2.out.kept (World.grownBy_alloc _ _ none) (by simp))
  clear HA2
  have HU0aw2 := Lib.hid (show Row aw2 0 (.slice an0 RR.length cn0) (strs RR) from by rw [← haw2]; exact HU0.out.kept (World.grownBy_alloc _ _ none) (by simp))
  clear HU0
  have HU1aw2 := Lib.hid (show Row aw2 0 (.slice an1 SS.length cn1) (strs SS) from by rw [← haw2]; exact HU1.out.kept (World.grownBy_alloc _ _ none) (by simp))
  clear HU1
  have HU2aw2 := Lib.hid (show Row aw2 0 (.slice an2 LL.length cn2) (strs LL) from by rw [← haw2]; exact HU2.out.kept (World.grownBy_alloc _ _ none) (by simp))
  clear HU2
  obtain ⟨BW, hBW⟩ : ∃ x, w2.heap.size = x := ⟨_, rfl⟩
  have HWaw2 := Lib.hid (show Blk aw2 BW 25 [Value.slice an1 SS.length cn1, Value.slice an2 LL.length cn2] from by rw [← haw2, ← hBW]; exact Blk.new w2 25 _)
  have HEaw2 := Lib.hid haw2
  have HBW := Lib.hid hBW
  clear haw2 hBW
  have hAW : A < BW := by rw [← HBW.out]; exact hAW0
  clear hAW0
  have cA0 : (w2.alloc (Obj.cells #[Value.slice an1 SS.length cn1, Value.slice an2 LL.length cn2] 25)).cell? ⟨A, 0, none⟩ = some (.slice a1 ss.length c1) := by rw [HEaw2.out]; exact HAaw2.out.cell rfl
  have cA1 : (w2.alloc (Obj.cells #[Value.slice an1 SS.length cn1, Value.slice an2 LL.length cn2] 25)).cell? ⟨A, 1, none⟩ = some (.slice a2 ls.length c2) := by rw [HEaw2.out]; exact HAaw2.out.cell rfl
  go_wp2_with fail
  rw [HEaw2.out, HBW.out]
  refine (HTO.out aw2 HGaw2.out).mono ?_
  rintro e w3 ⟨x1, x2, rfl, hq1, hq2, hb1, hb2, hg⟩
  have HG3 := Lib.hid (grown_trans HGaw2.out hg)
  have HA3 := Lib.hid (HAaw2.out.kept hg (by simp))
  have HU03 := Lib.hid (HU0aw2.out.kept hg (by simp))
  have HU13 := Lib.hid (HU1aw2.out.kept hg (by simp))
  have HU23 := Lib.hid (HU2aw2.out.kept hg (by simp))
  have HW3 := Lib.hid (HWaw2.out.kept hg (by simp))
  have HX1 := Lib.hid hb1
  have HX2 := Lib.hid hb2
  have hx1 := hq1
  have hx12 := hq2
  have hx2l : x2 < w3.heap.size := hb2.lt
  have hBWx : BW < x1 := by have h1 := HWaw2.out.lt; omega
  clear hq1 hq2 hb1 hb2
  clear HAaw2 HU0aw2 HU1aw2 HU2aw2 HWaw2 cA0 cA1 hg
  obtain ⟨aw3, haw3⟩ : ∃ x, (w3.alloc (Obj.cells #[Value.slice (some ⟨x1, 0, none⟩) ss.length ss.length, Value.slice (some ⟨x2, 0, none⟩) ls.length ls.length] 25)) = x := ⟨_, rfl⟩
  have HGaw3 := Lib.hid (show w.grownBy aw3 none from by rw [← haw3]; exact grown_alloc HG3.out _)
  have HAaw3 := Lib.hid (show Blk aw3 A 31 [Value.slice a1 ss.length c1, .slice a2 ls.length c2] from by rw [← haw3]; exact HA3.out.kept (World.grownBy_alloc _ _ none) (by simp))
  clear HA3
  have HU0aw3 := Lib.hid (show Row aw3 0 (.slice an0 RR.length cn0) (strs RR) from by rw [← haw3]; exact HU03.out.kept (World.grownBy_alloc _ _ none) (by simp))
  clear HU03
  have HU1aw3 := Lib.hid (show Row aw3 0 (.slice an1 SS.length cn1) (strs SS) from by rw [← haw3]; exact HU13.out.kept (World.grownBy_alloc _ _ none) (by simp))
  clear HU13
  have HU2aw3 := Lib.hid (show Row aw3 0 (.slice an2 LL.length cn2) (strs LL) from by rw [← haw3]; exact HU23.out.kept (World.grownBy_alloc _ _ none) (by simp))
  clear HU23
  have HWaw3 := Lib.hid (show Blk aw3 BW 25 [Value.slice an1 SS.length cn1, Value.slice an2 LL.length cn2] from by rw [← haw3]; exact HW3.out.kept (World.grownBy_alloc _ _ none) (by simp))
  clear HW3
  have HX1aw3 := Lib.hid (show Blk aw3 x1 9 (strs ss) from by rw [← haw3]; exact HX1.out.kept (World.grownBy_alloc _ _ none) (by simp))
  clear HX1
  have HX2aw3 := Lib.hid (show Blk aw3 x2 9 (strs ls) from by rw [← haw3]; exact HX2.out.kept (World.grownBy_alloc _ _ none) (by simp))
  clear HX2
  obtain ⟨BX, hBX⟩ : ∃ x, w3.heap.size = x := ⟨_, rfl⟩
  have HXaw3 := Lib.hid (show Blk aw3 BX 25 [Value.slice (some ⟨x1, 0, none⟩) ss.length ss.length, Value.slice (some ⟨x2, 0, none⟩) ls.length ls.length] from by rw [← haw3, ← hBX]; exact Blk.new w3 25 _)
  have HEaw3 := Lib.hid haw3
  have HBX := Lib.hid hBX
  clear haw3 hBX
  have HC := Lib.hid (HIA.out aw3 HGaw3.out x1 x2 HX1aw3.out)
  have hBX : x2 < BX := by have := HBX.out; omega
  go_wp2_with fail
  rw [HEaw3.out, HBX.out]
  refine (HC.out).mono ?_
  rintro e w4 ⟨v0, v1, v2, rfl, hr0, hr1, hr2, hd, hd2, hg⟩
  have HG4 := Lib.hid (grown_trans HGaw3.out hg)
  have HA4 := Lib.hid (HAaw3.out.kept hg (by simp))
  have HU04 := Lib.hid (HU0aw3.out.kept hg (by simp))
  have HU14 := Lib.hid (HU1aw3.out.kept hg (by simp))
  have HU24 := Lib.hid (HU2aw3.out.kept hg (by simp))
  have HW4 := Lib.hid (HWaw3.out.kept hg (by simp))
  have HX14 := Lib.hid (HX1aw3.out.kept hg (by simp))
  have HX24 := Lib.hid (HX2aw3.out.kept hg (by simp))
  have HX4 := Lib.hid (HXaw3.out.kept hg (by simp))
  have HV0 := Lib.hid hr0
  have HV1 := Lib.hid hr1
  have HV2 := Lib.hid hr2
  have HVD := Lib.hid hd
  have HVD2 := Lib.hid hd2
  obtain ⟨bn0, dn0, rfl, -⟩ := hr0.lies
  obtain ⟨bn1, dn1, rfl, -⟩ := hr1.lies
  obtain ⟨bn2, dn2, rfl, -⟩ := hr2.lies
  have HQV := Lib.hid (show ∀ q, (Value.slice bn0 RR.length dn0).ownBlock = some q ∨ (Value.slice bn1 SS.length dn1).ownBlock = some q ∨ (Value.slice bn2 LL.length dn2).ownBlock = some q → BX < q ∧ q < w4.heap.size from fun q hq => by have h0 : BX < aw3.heap.size := HXaw3.out.lt; rcases hq with hq | hq | hq; (have := hr0.lt q hq; omega); (have := hr1.lt q hq; omega); (have := hr2.lt q hq; omega))
  have HSZ4 := Lib.hid (show BX < w4.heap.size from by have h0 : BX < aw3.heap.size := HXaw3.out.lt; have h1 := hg.size; omega)
  clear hr0 hr1 hr2 hd hd2 HC
  clear HAaw3 HU0aw3 HU1aw3 HU2aw3 HWaw3 HX1aw3 HX2aw3 HXaw3 hg
  obtain ⟨aw4, haw4⟩ : ∃ x, (w4.alloc (Obj.cells #[Value.slice bn1 SS.length dn1, Value.slice bn2 LL.length dn2] 25)) = x := ⟨_, rfl⟩
  have HGaw4 := Lib.hid (show w.grownBy aw4 none from by rw [← haw4]; exact grown_alloc HG4.out _)
  have HAaw4 := Lib.hid (show Blk aw4 A 31 [Value.slice a1 ss.length c1, .slice a2 ls.length c2] from by rw [← haw4]; exact HA4.out.kept (World.grownBy_alloc _ _ none) (by simp))
  clear HA4
  have HU0aw4 := Lib.hid (show Row aw4 0 (.slice an0 RR.length cn0) (strs RR) from by rw [← haw4]; exact HU04.out.kept (World.grownBy_alloc _ _ none) (by simp))
  clear HU04
  have HU1aw4 := Lib.hid (show Row aw4 0 (.slice an1 SS.length cn1) (strs SS) from by rw [← haw4]; exact HU14.out.kept (World.grownBy_alloc _ _ none) (by simp))
  clear HU14
  have HU2aw4 := Lib.hid (show Row aw4 0 (.slice an2 LL.length cn2) (strs LL) from by rw [← haw4]; exact HU24.out.kept (World.grownBy_alloc _ _ none) (by simp))
  clear HU24
  have HWaw4 := Lib.hid (show Blk aw4 BW 25 [Value.slice an1 SS.length cn1, Value.slice an2 LL.length cn2] from by rw [← haw4]; exact HW4.out.kept (World.grownBy_alloc _ _ none) (by simp))
  clear HW4
  have HX1aw4 := Lib.hid (show Blk aw4 x1 9 (strs ss) from by rw [← haw4]; exact HX14.out.kept (World.grownBy_alloc _ _ none) (by simp))
  clear HX14
  have HX2aw4 := Lib.hid (show Blk aw4 x2 9 (strs ls) from by rw [← haw4]; exact HX24.out.kept (World.grownBy_alloc _ _ none) (by simp))
  clear HX24
  have HXaw4 := Lib.hid (show Blk aw4 BX 25 [Value.slice (some ⟨x1, 0, none⟩) ss.length ss.length, Value.slice (some ⟨x2, 0, none⟩) ls.length ls.length] from by rw [← haw4]; exact HX4.out.kept (World.grownBy_alloc _ _ none) (by simp))
  clear HX4
  have HV0aw4 := Lib.hid (show Row aw4 aw3.heap.size (.slice bn0 RR.length dn0) (strs RR) from by rw [← haw4]; exact HV0.out.kept (World.grownBy_alloc _ _ none) (by simp))
  clear HV0
  have HV1aw4 := Lib.hid (show Row aw4 aw3.heap.size (.slice bn1 SS.length dn1) (strs SS) from by rw [← haw4]; exact HV1.out.kept (World.grownBy_alloc _ _ none) (by simp))
  clear HV1
  have HV2aw4 := Lib.hid (show Row aw4 aw3.heap.size (.slice bn2 LL.length dn2) (strs LL) from by rw [← haw4]; exact HV2.out.kept (World.grownBy_alloc _ _ none) (by simp))
  clear HV2
  obtain ⟨BJ, hBJ⟩ : ∃ x, w4.heap.size = x := ⟨_, rfl⟩
  have HJaw4 := Lib.hid (show Blk aw4 BJ 25 [Value.slice bn1 SS.length dn1, Value.slice bn2 LL.length dn2] from by rw [← haw4, ← hBJ]; exact Blk.new w4 25 _)
  have HEaw4 := Lib.hid haw4
  have HBJ := Lib.hid hBJ
  clear haw4 hBJ
  have hBJ : BX < BJ := by have h0 := HBJ.out; have h1 := HSZ4.out; omega
  obtain ⟨ao', co', hv', lV0⟩ := HV0aw4.out.lies
  cases hv'
  obtain ⟨ao', co', hv', lU0⟩ := HU0aw4.out.lies
  cases hv'
  have HE := Lib.hid (eqS_any aw4 _ _ RR bn0 an0 dn0 cn0 lV0 lU0 nR)
  clear lV0 lU0
  go_wp2_with fail
  rw [HEaw4.out, HBJ.out]
  refine (HE.out).mono ?_
  rintro e w5 ⟨rfl, hg⟩
  have HG5 := Lib.hid (grown_trans HGaw4.out hg)
  have HA5 := Lib.hid (HAaw4.out.kept hg (by simp))
  have HU05 := Lib.hid (HU0aw4.out.kept hg (by simp))
  have HU15 := Lib.hid (HU1aw4.out.kept hg (by simp))
  have HU25 := Lib.hid (HU2aw4.out.kept hg (by simp))
  have HW5 := Lib.hid (HWaw4.out.kept hg (by simp))
  have HX15 := Lib.hid (HX1aw4.out.kept hg (by simp))
  have HX25 := Lib.hid (HX2aw4.out.kept hg (by simp))
  have HX5 := Lib.hid (HXaw4.out.kept hg (by simp))
  have HV05 := Lib.hid (HV0aw4.out.kept hg (by simp))
  have HV15 := Lib.hid (HV1aw4.out.kept hg (by simp))
  have HV25 := Lib.hid (HV2aw4.out.kept hg (by simp))
  have HJ5 := Lib.hid (HJaw4.out.kept hg (by simp))
  clear HE
  clear HAaw4 HU0aw4 HU1aw4 HU2aw4 HWaw4 HX1aw4 HX2aw4 HXaw4 HV0aw4 HV1aw4 HV2aw4 HJaw4 hg
  have cJ0 : w5.cell? ⟨BJ, 0, none⟩ = some (.slice bn1 SS.length dn1) := HJ5.out.cell rfl
  have cJ1 : w5.cell? ⟨BJ, 1, none⟩ = some (.slice bn2 LL.length dn2) := HJ5.out.cell rfl
  have cW0 : w5.cell? ⟨BW, 0, none⟩ = some (.slice an1 SS.length cn1) := HW5.out.cell rfl
  have cW1 : w5.cell? ⟨BW, 1, none⟩ = some (.slice an2 LL.length cn2) := HW5.out.cell rfl
  obtain ⟨ao', co', hv', lV1⟩ := HV15.out.lies
  cases hv'
  obtain ⟨ao', co', hv', lV2⟩ := HV25.out.lies
  cases hv'
  obtain ⟨ao', co', hv', lU1⟩ := HU15.out.lies
  cases hv'
  obtain ⟨ao', co', hv', lU2⟩ := HU25.out.lies
  cases hv'
  have HE := Lib.hid (eqTape_any w5 _ _ _ _ bn1 bn2 an1 an2 dn1 dn2 cn1 cn2 SS LL lV1 lV2 lU1 lU2 nA nB)
  clear lV1 lV2 lU1 lU2
  go_wp2_with fail
  refine (HE.out).mono ?_
  rintro e w6 ⟨rfl, hg⟩
  have HG6 := Lib.hid (grown_trans HG5.out hg)
  have HA6 := Lib.hid (HA5.out.kept hg (by simp))
  have HU06 := Lib.hid (HU05.out.kept hg (by simp))
  have HU16 := Lib.hid (HU15.out.kept hg (by simp))
  have HU26 := Lib.hid (HU25.out.kept hg (by simp))
  have HW6 := Lib.hid (HW5.out.kept hg (by simp))
  have HX16 := Lib.hid (HX15.out.kept hg (by simp))
  have HX26 := Lib.hid (HX25.out.kept hg (by simp))
  have HX6 := Lib.hid (HX5.out.kept hg (by simp))
  have HV06 := Lib.hid (HV05.out.kept hg (by simp))
  have HV16 := Lib.hid (HV15.out.kept hg (by simp))
  have HV26 := Lib.hid (HV25.out.kept hg (by simp))
  have HJ6 := Lib.hid (HJ5.out.kept hg (by simp))
  clear HE
  clear HA5 HU05 HU15 HU25 HW5 HX15 HX25 HX5 HV05 HV15 HV25 HJ5 cJ0 cJ1 cW0 cW1 hg
  have HSR := Lib.hid (show w6.drew.cell? ⟨BX, 0, none⟩ = some (.slice (some ⟨x1, 0, none⟩) ss.length ss.length) ∧ w6.drew.cell? ⟨BX, 1, none⟩ = some (.slice (some ⟨x2, 0, none⟩) ls.length ls.length) ∧ w6.drew.cell? ⟨A, 0, none⟩ = some (.slice a1 ss.length c1) ∧ w6.drew.cell? ⟨A, 1, none⟩ = some (.slice a2 ls.length c2) ∧ w6.grownBy w6.drew none from ⟨HX6.out.cell rfl, HX6.out.cell rfl, HA6.out.cell rfl, HA6.out.cell rfl, grown_drew (grown_refl _ _)⟩)
  have HTR := Lib.hid (fun (W : World) (hW : W.cell? ⟨BX, 0, none⟩ = some (.slice (some ⟨x1, 0, none⟩) ss.length ss.length) ∧ W.cell? ⟨BX, 1, none⟩ = some (.slice (some ⟨x2, 0, none⟩) ls.length ls.length) ∧ W.cell? ⟨A, 0, none⟩ = some (.slice a1 ss.length c1) ∧ W.cell? ⟨A, 1, none⟩ = some (.slice a2 ls.length c2) ∧ w6.grownBy W none) => (HTO.out W (grown_trans HG6.out hW.2.2.2.2)).mono (R' := fun e w' => ∃ y1 y2, e = .returned (.agg #[.slice (some ⟨y1, 0, none⟩) ss.length ss.length, .slice (some ⟨y2, 0, none⟩) ls.length ls.length]) ∧ (w'.cell? ⟨BX, 0, none⟩ = some (.slice (some ⟨x1, 0, none⟩) ss.length ss.length) ∧ w'.cell? ⟨BX, 1, none⟩ = some (.slice (some ⟨x2, 0, none⟩) ls.length ls.length) ∧ w'.cell? ⟨A, 0, none⟩ = some (.slice a1 ss.length c1) ∧ w'.cell? ⟨A, 1, none⟩ = some (.slice a2 ls.length c2) ∧ w6.grownBy w' none) ∧ Blk w' y1 9 (strs ss) ∧ Blk w' y2 9 (strs ls)) (fun e w' ⟨y1, y2, q1, _, _, q4, q5, q6⟩ => ⟨y1, y2, q1, ⟨q6.cell hW.1 (by simp), q6.cell hW.2.1 (by simp), q6.cell hW.2.2.1 (by simp), q6.cell hW.2.2.2.1 (by simp), grown_trans hW.2.2.2.2 q6⟩, q4, q5⟩))
  have HER := Lib.hid (fun (W : World) (y1 y2 : Nat) (hW : W.cell? ⟨BX, 0, none⟩ = some (.slice (some ⟨x1, 0, none⟩) ss.length ss.length) ∧ W.cell? ⟨BX, 1, none⟩ = some (.slice (some ⟨x2, 0, none⟩) ls.length ls.length) ∧ W.cell? ⟨A, 0, none⟩ = some (.slice a1 ss.length c1) ∧ W.cell? ⟨A, 1, none⟩ = some (.slice a2 ls.length c2) ∧ w6.grownBy W none) (k1 : Blk W y1 9 (strs ss)) (k2 : Blk W y2 9 (strs ls)) => (eqTape_any W _ _ _ _ _ _ _ _ ss.length ls.length ss.length ls.length ss ls (HX16.out.kept hW.2.2.2.2 (by simp)).lies (HX26.out.kept hW.2.2.2.2 (by simp)).lies k1.lies k2.lies n1 n2).mono (R' := fun e w' => e = .returned (.bool true) ∧ (w'.cell? ⟨BX, 0, none⟩ = some (.slice (some ⟨x1, 0, none⟩) ss.length ss.length) ∧ w'.cell? ⟨BX, 1, none⟩ = some (.slice (some ⟨x2, 0, none⟩) ls.length ls.length) ∧ w'.cell? ⟨A, 0, none⟩ = some (.slice a1 ss.length c1) ∧ w'.cell? ⟨A, 1, none⟩ = some (.slice a2 ls.length c2) ∧ w6.grownBy w' none)) (fun e w' ⟨q1, q6⟩ => ⟨q1, q6.cell hW.1 (by simp), q6.cell hW.2.1 (by simp), q6.cell hW.2.2.1 (by simp), q6.cell hW.2.2.2.1 (by simp), grown_trans hW.2.2.2.2 q6⟩))
  go_wp2
  go_region_held3 (fun W => W.cell? ⟨BX, 0, none⟩ = some (.slice (some ⟨x1, 0, none⟩) ss.length ss.length) ∧ W.cell? ⟨BX, 1, none⟩ = some (.slice (some ⟨x2, 0, none⟩) ls.length ls.length) ∧ W.cell? ⟨A, 0, none⟩ = some (.slice a1 ss.length c1) ∧ W.cell? ⟨A, 1, none⟩ = some (.slice a2 ls.length c2) ∧ w6.grownBy W none) (first | assumption | exact HSR.out)
    (first
      | (go_at_call 12; refine (HTR.out _ (by assumption)).mono ?_; rintro e wa ⟨y1, y2, rfl, hSa, hy1, hy2⟩; have HY1 := Lib.hid hy1; have HY2 := Lib.hid hy2; clear hy1 hy2)
      | (go_at_call 14; refine (HER.out _ y1 y2 (by assumption) HY1.out HY2.out).mono ?_; rintro e wb ⟨rfl, hSb⟩; have HSB := Lib.hid hSb))
  have hg := HSB.out.2.2.2.2
  have HG7 := Lib.hid (grown_trans HG6.out hg)
  have HA7 := Lib.hid (HA6.out.kept hg (by simp))
  have HU07 := Lib.hid (HU06.out.kept hg (by simp))
  have HU17 := Lib.hid (HU16.out.kept hg (by simp))
  have HU27 := Lib.hid (HU26.out.kept hg (by simp))
  have HW7 := Lib.hid (HW6.out.kept hg (by simp))
  have HX17 := Lib.hid (HX16.out.kept hg (by simp))
  have HX27 := Lib.hid (HX26.out.kept hg (by simp))
  have HX7 := Lib.hid (HX6.out.kept hg (by simp))
  have HV07 := Lib.hid (HV06.out.kept hg (by simp))
  have HV17 := Lib.hid (HV16.out.kept hg (by simp))
  have HV27 := Lib.hid (HV26.out.kept hg (by simp))
  have HJ7 := Lib.hid (HJ6.out.kept hg (by simp))
  clear HA6 HU06 HU16 HU26 HW6 HX16 HX26 HX6 HV06 HV16 HV26 HJ6 hg hSa hSb HSB HSR HTR HER HY1 HY2
  have HMX := Lib.hid (markTape_any wb 0 (some ⟨x1, 0, none⟩) (some ⟨x2, 0, none⟩) ss.length ls.length ss ls (HX17.out.row 0 (Nat.zero_le _)) (HX27.out.row 0 (Nat.zero_le _)) (fun q hq e => by simp [Value.ownBlock] at hq e; omega) n1 n2)
  have HOX := Lib.hid (show ∀ q, Own2 (.slice (some ⟨x1, 0, none⟩) ss.length ss.length) (.slice (some ⟨x2, 0, none⟩) ls.length ls.length) q → q = x1 ∨ q = x2 from fun q hq => by
    rcases hq with h | h
    · simp [Value.ownBlock] at h; exact .inl h.symm
    · simp [Value.ownBlock] at h; exact .inr h.symm)
  have cX0 : wb.cell? ⟨BX, 0, none⟩ = some (.slice (some ⟨x1, 0, none⟩) ss.length ss.length) := HX7.out.cell rfl
  have cX1 : wb.cell? ⟨BX, 1, none⟩ = some (.slice (some ⟨x2, 0, none⟩) ls.length ls.length) := HX7.out.cell rfl
  go_wp2_with fail
  refine (HMX.out).mono ?_
  rintro e w8 ⟨rfl, -, -, hg⟩
  have HG8 := Lib.hid (Fr.grown HG7.out hg (fun i hi h => by have h0 := HAE.out; rcases HOX.out i h with h | h <;> omega))
  have HA8 := Lib.hid (hg.blk HA7.out (fun h => by have h0 := HAE.out; rcases HOX.out _ h with h | h <;> omega))
  have HU08 := Lib.hid (hg.row HU07.out (fun q hq h => by have h0 := HQU.out q (.inl hq); have h1 := HBW.out; rcases HOX.out _ h with h | h <;> omega))
  have HU18 := Lib.hid (hg.row HU17.out (fun q hq h => by have h0 := HQU.out q (.inr (.inl hq)); have h1 := HBW.out; rcases HOX.out _ h with h | h <;> omega))
  have HU28 := Lib.hid (hg.row HU27.out (fun q hq h => by have h0 := HQU.out q (.inr (.inr hq)); have h1 := HBW.out; rcases HOX.out _ h with h | h <;> omega))
  have HW8 := Lib.hid (hg.blk HW7.out (fun h => by have h0 := HAE.out; rcases HOX.out _ h with h | h <;> omega))
  have HX8 := Lib.hid (hg.blk HX7.out (fun h => by have h0 := HAE.out; rcases HOX.out _ h with h | h <;> omega))
  have HV08 := Lib.hid (hg.row HV07.out (fun q hq h => by have h0 := HQV.out q (.inl hq); rcases HOX.out _ h with h | h <;> omega))
  have HV18 := Lib.hid (hg.row HV17.out (fun q hq h => by have h0 := HQV.out q (.inr (.inl hq)); rcases HOX.out _ h with h | h <;> omega))
  have HV28 := Lib.hid (hg.row HV27.out (fun q hq h => by have h0 := HQV.out q (.inr (.inr hq)); rcases HOX.out _ h with h | h <;> omega))
  have HJ8 := Lib.hid (hg.blk HJ7.out (fun h => by have h0 := HAE.out; rcases HOX.out _ h with h | h <;> omega))
  obtain ⟨KX, hKX⟩ : ∃ K, K = 1 + ss.length + ls.length := ⟨_, rfl⟩
  rw [← hKX]
  have kx : ¬ (KX : Int) < 0 := by omega
  clear hKX HMX
  clear HA7 HU07 HU17 HU27 HW7 HX7 HV07 HV17 HV27 HJ7 cX0 cX1 hg
  obtain ⟨ao', co', hv', lV0⟩ := HV08.out.lies
  cases hv'
  obtain ⟨ao', co', hv', lU0⟩ := HU08.out.lies
  cases hv'
  have HE := Lib.hid (eqS_any w8 _ _ RR bn0 an0 dn0 cn0 lV0 lU0 nR)
  clear lV0 lU0
  go_wp2_with fail
  refine (HE.out).mono ?_
  rintro e w9 ⟨rfl, hg⟩
  have HG9 := Lib.hid (grown_trans HG8.out hg)
  have HA9 := Lib.hid (HA8.out.kept hg (by simp))
  have HU09 := Lib.hid (HU08.out.kept hg (by simp))
  have HU19 := Lib.hid (HU18.out.kept hg (by simp))
  have HU29 := Lib.hid (HU28.out.kept hg (by simp))
  have HW9 := Lib.hid (HW8.out.kept hg (by simp))
  have HX9 := Lib.hid (HX8.out.kept hg (by simp))
  have HV09 := Lib.hid (HV08.out.kept hg (by simp))
  have HV19 := Lib.hid (HV18.out.kept hg (by simp))
  have HV29 := Lib.hid (HV28.out.kept hg (by simp))
  have HJ9 := Lib.hid (HJ8.out.kept hg (by simp))
  clear HE
  clear HA8 HU08 HU18 HU28 HW8 HX8 HV08 HV18 HV28 HJ8 hg
  have cJ0 : w9.cell? ⟨BJ, 0, none⟩ = some (.slice bn1 SS.length dn1) := HJ9.out.cell rfl
  have cJ1 : w9.cell? ⟨BJ, 1, none⟩ = some (.slice bn2 LL.length dn2) := HJ9.out.cell rfl
  have cW0 : w9.cell? ⟨BW, 0, none⟩ = some (.slice an1 SS.length cn1) := HW9.out.cell rfl
  have cW1 : w9.cell? ⟨BW, 1, none⟩ = some (.slice an2 LL.length cn2) := HW9.out.cell rfl
  obtain ⟨ao', co', hv', lV1⟩ := HV19.out.lies
  cases hv'
  obtain ⟨ao', co', hv', lV2⟩ := HV29.out.lies
  cases hv'
  obtain ⟨ao', co', hv', lU1⟩ := HU19.out.lies
  cases hv'
  obtain ⟨ao', co', hv', lU2⟩ := HU29.out.lies
  cases hv'
  have HE := Lib.hid (eqTape_any w9 _ _ _ _ bn1 bn2 an1 an2 dn1 dn2 cn1 cn2 SS LL lV1 lV2 lU1 lU2 nA nB)
  clear lV1 lV2 lU1 lU2
  go_wp2_with fail
  refine (HE.out).mono ?_
  rintro e w10 ⟨rfl, hg⟩
  have HG10 := Lib.hid (grown_trans HG9.out hg)
  have HA10 := Lib.hid (HA9.out.kept hg (by simp))
  have HU010 := Lib.hid (HU09.out.kept hg (by simp))
  have HU110 := Lib.hid (HU19.out.kept hg (by simp))
  have HU210 := Lib.hid (HU29.out.kept hg (by simp))
  have HW10 := Lib.hid (HW9.out.kept hg (by simp))
  have HX10 := Lib.hid (HX9.out.kept hg (by simp))
  have HV010 := Lib.hid (HV09.out.kept hg (by simp))
  have HV110 := Lib.hid (HV19.out.kept hg (by simp))
  have HV210 := Lib.hid (HV29.out.kept hg (by simp))
  have HJ10 := Lib.hid (HJ9.out.kept hg (by simp))
  clear HE
  clear HA9 HU09 HU19 HU29 HW9 HX9 HV09 HV19 HV29 HJ9 cJ0 cJ1 cW0 cW1 hg
  have HMR := Lib.hid (markS_fr w10 _ (.slice bn0 RR.length dn0) RR HV010.out nR 1 (by omega) (by omega))
  go_wp2_with fail
  refine (HMR.out).mono ?_
  rintro e w11 ⟨rfl, hm0, hg⟩
  have HG11 := Lib.hid (Fr.grown HG10.out hg (fun i hi h => by have h0 := HAE.out; have h2 := HQV.out i (.inl h); omega))
  have HA11 := Lib.hid (hg.blk HA10.out (fun h => by have h0 := HQV.out _ (.inl h); omega))
  have HU011 := Lib.hid (hg.row HU010.out (fun q hq h => by have h0 := HQU.out q (.inl hq); have h1 := HBW.out; have h2 := HQV.out q (.inl h); omega))
  have HU111 := Lib.hid (hg.row HU110.out (fun q hq h => by have h0 := HQU.out q (.inr (.inl hq)); have h1 := HBW.out; have h2 := HQV.out q (.inl h); omega))
  have HU211 := Lib.hid (hg.row HU210.out (fun q hq h => by have h0 := HQU.out q (.inr (.inr hq)); have h1 := HBW.out; have h2 := HQV.out q (.inl h); omega))
  have HW11 := Lib.hid (hg.blk HW10.out (fun h => by have h0 := HQV.out _ (.inl h); omega))
  have HX11 := Lib.hid (hg.blk HX10.out (fun h => by have h0 := HQV.out _ (.inl h); omega))
  have HV111 := Lib.hid (hg.row HV110.out (fun q hq h => (HVD.out q h).1 hq))
  have HV211 := Lib.hid (hg.row HV210.out (fun q hq h => (HVD.out q h).2 hq))
  have HJ11 := Lib.hid (hg.blk HJ10.out (fun h => by have h0 := HQV.out _ (.inl h); have h1 := HBJ.out; omega))
  have HM0 := Lib.hid hm0
  clear hm0 HMR HV010
  obtain ⟨KR, hKR⟩ : ∃ K, K = 1 + RR.length := ⟨_, rfl⟩
  rw [← hKR]
  have kr : ¬ (KR : Int) < 0 := by omega
  have HKR := Lib.hid hKR
  clear hKR
  clear HA10 HU010 HU110 HU210 HW10 HX10 HV110 HV210 HJ10 hg
  have HMG := Lib.hid (markTape_k w11 _ bn1 bn2 dn1 dn2 SS LL HV111.out HV211.out HVD2.out nA nB (k := KR) (by have := HKR.out; omega) (by have := HKR.out; omega))
  have cJ0 : w11.cell? ⟨BJ, 0, none⟩ = some (.slice bn1 SS.length dn1) := HJ11.out.cell rfl
  have cJ1 : w11.cell? ⟨BJ, 1, none⟩ = some (.slice bn2 LL.length dn2) := HJ11.out.cell rfl
  go_wp2_with fail
  refine (HMG.out).mono ?_
  rintro e w12 ⟨rfl, hm1, hm2, hg⟩
  have HG12 := Lib.hid (Fr.grown HG11.out hg (fun i hi h => by have h0 := HAE.out; have h2 := HQV.out i (.inr h); omega))
  have HA12 := Lib.hid (hg.blk HA11.out (fun h => by have h0 := HQV.out _ (.inr h); omega))
  have HU012 := Lib.hid (hg.row HU011.out (fun q hq h => by have h0 := HQU.out q (.inl hq); have h1 := HBW.out; have h2 := HQV.out q (.inr h); omega))
  have HU112 := Lib.hid (hg.row HU111.out (fun q hq h => by have h0 := HQU.out q (.inr (.inl hq)); have h1 := HBW.out; have h2 := HQV.out q (.inr h); omega))
  have HU212 := Lib.hid (hg.row HU211.out (fun q hq h => by have h0 := HQU.out q (.inr (.inr hq)); have h1 := HBW.out; have h2 := HQV.out q (.inr h); omega))
  have HW12 := Lib.hid (hg.blk HW11.out (fun h => by have h0 := HQV.out _ (.inr h); omega))
  have HX12 := Lib.hid (hg.blk HX11.out (fun h => by have h0 := HQV.out _ (.inr h); omega))
  have HJ12 := Lib.hid (hg.blk HJ11.out (fun h => by have h0 := HQV.out _ (.inr h); have h1 := HBJ.out; omega))
  have HM012 := Lib.hid (hg.row HM0.out (fun q hq h => by rcases h with h | h; (exact (HVD.out q hq).1 h); (exact (HVD.out q hq).2 h)))
  have HK1 := Lib.hid hm1
  have HK2 := Lib.hid hm2
  clear hm1 hm2 HMG HV111 HV211
  clear HA11 HU011 HU111 HU211 HW11 HX11 HJ11 HM0 cJ0 cJ1 hg
  have HHR := Lib.hid (fun (W : World) (hW : w12.grownBy W none) => heldS_any W _ (.slice bn0 RR.length dn0) RR.length 1 (HM012.out.kept hW (by simp)) nR (by omega) (by omega))
  have HHE := Lib.hid (fun (W : World) (hW : w12.grownBy W none) => heldTape_k W _ bn1 bn2 SS.length LL.length dn1 dn2 SS.length LL.length (HK1.out.kept hW (by simp)) (HK2.out.kept hW (by simp)) nA nB (k := KR) (by have := HKR.out; omega) (by have := HKR.out; omega))
  have HM := Lib.hid (grown_refl w12 none)
  obtain ⟨KM, hKM⟩ : ∃ K, K = KR + SS.length + LL.length := ⟨_, rfl⟩
  rw [← hKM] at HHE ⊢
  have km : ¬ (KM : Int) < 0 := by omega
  rw [← HKR.out] at HHR
  clear hKM HK1 HK2 HM012
  go_wp2_with fail
  refine (HHR.out w12 HM.out).mono ?_
  rintro e w13 ⟨rfl, hg⟩
  have HG13 := Lib.hid (grown_trans HG12.out hg)
  have HA13 := Lib.hid (HA12.out.kept hg (by simp))
  have HU013 := Lib.hid (HU012.out.kept hg (by simp))
  have HU113 := Lib.hid (HU112.out.kept hg (by simp))
  have HU213 := Lib.hid (HU212.out.kept hg (by simp))
  have HW13 := Lib.hid (HW12.out.kept hg (by simp))
  have HX13 := Lib.hid (HX12.out.kept hg (by simp))
  have HJ13 := Lib.hid (HJ12.out.kept hg (by simp))
  have HM13 := Lib.hid (grown_trans HM.out hg)
  clear HA12 HU012 HU112 HU212 HW12 HX12 HJ12 HM hg
  have cJ0 : w13.cell? ⟨BJ, 0, none⟩ = some (.slice bn1 SS.length dn1) := HJ13.out.cell rfl
  have cJ1 : w13.cell? ⟨BJ, 1, none⟩ = some (.slice bn2 LL.length dn2) := HJ13.out.cell rfl
  go_wp2_with fail
  refine (HHE.out w13 HM13.out).mono ?_
  rintro e w14 ⟨rfl, hg⟩
  have HG14 := Lib.hid (grown_trans HG13.out hg)
  have HA14 := Lib.hid (HA13.out.kept hg (by simp))
  have HU014 := Lib.hid (HU013.out.kept hg (by simp))
  have HU114 := Lib.hid (HU113.out.kept hg (by simp))
  have HU214 := Lib.hid (HU213.out.kept hg (by simp))
  have HW14 := Lib.hid (HW13.out.kept hg (by simp))
  have HX14 := Lib.hid (HX13.out.kept hg (by simp))
  have HJ14 := Lib.hid (HJ13.out.kept hg (by simp))
  have HM14 := Lib.hid (grown_trans HM13.out hg)
  clear HA13 HU013 HU113 HU213 HW13 HX13 HJ13 HM13 cJ0 cJ1 hg
  have cA0 : w14.cell? ⟨A, 0, none⟩ = some (.slice a1 ss.length c1) := HA14.out.cell rfl
  have cA1 : w14.cell? ⟨A, 1, none⟩ = some (.slice a2 ls.length c2) := HA14.out.cell rfl
  go_wp2_with fail
  refine (HTO.out w14 HG14.out).mono ?_
  rintro e w15 ⟨y1, y2, rfl, hq1, hq2, hb1, hb2, hg⟩
  have HG15 := Lib.hid (grown_trans HG14.out hg)
  have HA15 := Lib.hid (HA14.out.kept hg (by simp))
  have HU015 := Lib.hid (HU014.out.kept hg (by simp))
  have HU115 := Lib.hid (HU114.out.kept hg (by simp))
  have HU215 := Lib.hid (HU214.out.kept hg (by simp))
  have HW15 := Lib.hid (HW14.out.kept hg (by simp))
  have HX15 := Lib.hid (HX14.out.kept hg (by simp))
  have HJ15 := Lib.hid (HJ14.out.kept hg (by simp))
  have HM15 := Lib.hid (grown_trans HM14.out hg)
  have HY1 := Lib.hid hb1
  clear hq1 hq2 hb1 hb2
  clear HA14 HU014 HU114 HU214 HW14 HX14 HJ14 HM14 cA0 cA1 hg
  have HC := Lib.hid (HIA.out w15 HG15.out y1 y2 HY1.out)
  clear HY1
  go_wp2_with fail
  refine (HC.out).mono ?_
  rintro e w16 ⟨k0, k1, k2, rfl, hr0, hr1, hr2, -, -, hg⟩
  have HG16 := Lib.hid (grown_trans HG15.out hg)
  have HA16 := Lib.hid (HA15.out.kept hg (by simp))
  have HU016 := Lib.hid (HU015.out.kept hg (by simp))
  have HU116 := Lib.hid (HU115.out.kept hg (by simp))
  have HU216 := Lib.hid (HU215.out.kept hg (by simp))
  have HW16 := Lib.hid (HW15.out.kept hg (by simp))
  have HJ16 := Lib.hid (HJ15.out.kept hg (by simp))
  have HM16 := Lib.hid (grown_trans HM15.out hg)
  have HR0 := Lib.hid hr0
  have HR1 := Lib.hid hr1
  have HR2 := Lib.hid hr2
  obtain ⟨kn0, ln0, rfl, -⟩ := hr0.lies
  obtain ⟨kn1, ln1, rfl, -⟩ := hr1.lies
  obtain ⟨kn2, ln2, rfl, -⟩ := hr2.lies
  clear hr0 hr1 hr2 HC
  clear HA15 HU015 HU115 HU215 HW15 HJ15 HM15 hg
  have HK0 := Lib.hid (HR0.out.base (Nat.zero_le _))
  have HK1 := Lib.hid (HR1.out.base (Nat.zero_le _))
  have HK2 := Lib.hid (HR2.out.base (Nat.zero_le _))
  clear HR0 HR1 HR2
  obtain ⟨aw16, haw16⟩ : ∃ x, (w16.alloc (Obj.cells #[Value.slice kn1 SS.length ln1, Value.slice kn2 LL.length ln2] 25)) = x := ⟨_, rfl⟩
  have HGaw16 := Lib.hid (show w.grownBy aw16 none from by rw [← haw16]; exact grown_alloc HG16.out _)
  have HU0aw16 := Lib.hid (show Row aw16 0 (.slice an0 RR.length cn0) (strs RR) from by rw [← haw16]; exact HU016.out.kept (World.grownBy_alloc _ _ none) (by simp))
  clear HU016
  have HU1aw16 := Lib.hid (show Row aw16 0 (.slice an1 SS.length cn1) (strs SS) from by rw [← haw16]; exact HU116.out.kept (World.grownBy_alloc _ _ none) (by simp))
  clear HU116
  have HU2aw16 := Lib.hid (show Row aw16 0 (.slice an2 LL.length cn2) (strs LL) from by rw [← haw16]; exact HU216.out.kept (World.grownBy_alloc _ _ none) (by simp))
  clear HU216
  have HWaw16 := Lib.hid (show Blk aw16 BW 25 [Value.slice an1 SS.length cn1, Value.slice an2 LL.length cn2] from by rw [← haw16]; exact HW16.out.kept (World.grownBy_alloc _ _ none) (by simp))
  clear HW16
  have HJaw16 := Lib.hid (show Blk aw16 BJ 25 [Value.slice bn1 SS.length dn1, Value.slice bn2 LL.length dn2] from by rw [← haw16]; exact HJ16.out.kept (World.grownBy_alloc _ _ none) (by simp))
  clear HJ16
  have HMaw16 := Lib.hid (show w12.grownBy aw16 none from by rw [← haw16]; exact grown_alloc HM16.out _)
  clear HM16
  have HK0aw16 := Lib.hid (show Row aw16 0 (.slice kn0 RR.length ln0) (strs RR) from by rw [← haw16]; exact HK0.out.kept (World.grownBy_alloc _ _ none) (by simp))
  clear HK0
  have HK1aw16 := Lib.hid (show Row aw16 0 (.slice kn1 SS.length ln1) (strs SS) from by rw [← haw16]; exact HK1.out.kept (World.grownBy_alloc _ _ none) (by simp))
  clear HK1
  have HK2aw16 := Lib.hid (show Row aw16 0 (.slice kn2 LL.length ln2) (strs LL) from by rw [← haw16]; exact HK2.out.kept (World.grownBy_alloc _ _ none) (by simp))
  clear HK2
  obtain ⟨BZ, hBZ⟩ : ∃ x, w16.heap.size = x := ⟨_, rfl⟩
  have HZaw16 := Lib.hid (show Blk aw16 BZ 25 [Value.slice kn1 SS.length ln1, Value.slice kn2 LL.length ln2] from by rw [← haw16, ← hBZ]; exact Blk.new w16 25 _)
  have HEaw16 := Lib.hid haw16
  have HBZ := Lib.hid hBZ
  clear haw16 hBZ
  obtain ⟨ao', co', hv', lK0⟩ := HK0aw16.out.lies
  cases hv'
  obtain ⟨ao', co', hv', lU0⟩ := HU0aw16.out.lies
  cases hv'
  have HE := Lib.hid (eqS_any aw16 _ _ RR kn0 an0 ln0 cn0 lK0 lU0 nR)
  clear lK0 lU0
  go_wp2_with fail
  rw [HEaw16.out, HBZ.out]
  refine (HE.out).mono ?_
  rintro e w17 ⟨rfl, hg⟩
  have HG17 := Lib.hid (grown_trans HGaw16.out hg)
  have HU017 := Lib.hid (HU0aw16.out.kept hg (by simp))
  have HU117 := Lib.hid (HU1aw16.out.kept hg (by simp))
  have HU217 := Lib.hid (HU2aw16.out.kept hg (by simp))
  have HW17 := Lib.hid (HWaw16.out.kept hg (by simp))
  have HJ17 := Lib.hid (HJaw16.out.kept hg (by simp))
  have HM17 := Lib.hid (grown_trans HMaw16.out hg)
  have HK017 := Lib.hid (HK0aw16.out.kept hg (by simp))
  have HK117 := Lib.hid (HK1aw16.out.kept hg (by simp))
  have HK217 := Lib.hid (HK2aw16.out.kept hg (by simp))
  have HZ17 := Lib.hid (HZaw16.out.kept hg (by simp))
  clear HE
  clear HU0aw16 HU1aw16 HU2aw16 HWaw16 HJaw16 HMaw16 HK0aw16 HK1aw16 HK2aw16 HZaw16 hg
  have cZ0 : w17.cell? ⟨BZ, 0, none⟩ = some (.slice kn1 SS.length ln1) := HZ17.out.cell rfl
  have cZ1 : w17.cell? ⟨BZ, 1, none⟩ = some (.slice kn2 LL.length ln2) := HZ17.out.cell rfl
  have cW0 : w17.cell? ⟨BW, 0, none⟩ = some (.slice an1 SS.length cn1) := HW17.out.cell rfl
  have cW1 : w17.cell? ⟨BW, 1, none⟩ = some (.slice an2 LL.length cn2) := HW17.out.cell rfl
  obtain ⟨ao', co', hv', lK1⟩ := HK117.out.lies
  cases hv'
  obtain ⟨ao', co', hv', lK2⟩ := HK217.out.lies
  cases hv'
  obtain ⟨ao', co', hv', lU1⟩ := HU117.out.lies
  cases hv'
  obtain ⟨ao', co', hv', lU2⟩ := HU217.out.lies
  cases hv'
  have HE := Lib.hid (eqTape_any w17 _ _ _ _ kn1 kn2 an1 an2 ln1 ln2 cn1 cn2 SS LL lK1 lK2 lU1 lU2 nA nB)
  clear lK1 lK2 lU1 lU2
  go_wp2_with fail
  refine (HE.out).mono ?_
  rintro e w18 ⟨rfl, hg⟩
  have HG18 := Lib.hid (grown_trans HG17.out hg)
  have HU018 := Lib.hid (HU017.out.kept hg (by simp))
  have HU118 := Lib.hid (HU117.out.kept hg (by simp))
  have HU218 := Lib.hid (HU217.out.kept hg (by simp))
  have HW18 := Lib.hid (HW17.out.kept hg (by simp))
  have HJ18 := Lib.hid (HJ17.out.kept hg (by simp))
  have HM18 := Lib.hid (grown_trans HM17.out hg)
  have HK018 := Lib.hid (HK017.out.kept hg (by simp))
  have HK118 := Lib.hid (HK117.out.kept hg (by simp))
  have HK218 := Lib.hid (HK217.out.kept hg (by simp))
  have HZ18 := Lib.hid (HZ17.out.kept hg (by simp))
  clear HE
  clear HU017 HU117 HU217 HW17 HJ17 HM17 HK017 HK117 HK217 HZ17 cZ0 cZ1 cW0 cW1 hg
  go_wp2_with fail
  refine (HHR.out w18 HM18.out).mono ?_
  rintro e w19 ⟨rfl, hg⟩
  have HG19 := Lib.hid (grown_trans HG18.out hg)
  have HU019 := Lib.hid (HU018.out.kept hg (by simp))
  have HU119 := Lib.hid (HU118.out.kept hg (by simp))
  have HU219 := Lib.hid (HU218.out.kept hg (by simp))
  have HW19 := Lib.hid (HW18.out.kept hg (by simp))
  have HJ19 := Lib.hid (HJ18.out.kept hg (by simp))
  have HM19 := Lib.hid (grown_trans HM18.out hg)
  have HK019 := Lib.hid (HK018.out.kept hg (by simp))
  have HK119 := Lib.hid (HK118.out.kept hg (by simp))
  have HK219 := Lib.hid (HK218.out.kept hg (by simp))
  have HZ19 := Lib.hid (HZ18.out.kept hg (by simp))
  clear HU018 HU118 HU218 HW18 HJ18 HM18 HK018 HK118 HK218 HZ18 hg
  have cJ0 : w19.cell? ⟨BJ, 0, none⟩ = some (.slice bn1 SS.length dn1) := HJ19.out.cell rfl
  have cJ1 : w19.cell? ⟨BJ, 1, none⟩ = some (.slice bn2 LL.length dn2) := HJ19.out.cell rfl
  go_wp2_with fail
  refine (HHE.out w19 HM19.out).mono ?_
  rintro e w20 ⟨rfl, hg⟩
  have HG20 := Lib.hid (grown_trans HG19.out hg)
  have HU020 := Lib.hid (HU019.out.kept hg (by simp))
  have HU120 := Lib.hid (HU119.out.kept hg (by simp))
  have HU220 := Lib.hid (HU219.out.kept hg (by simp))
  have HW20 := Lib.hid (HW19.out.kept hg (by simp))
  have HJ20 := Lib.hid (HJ19.out.kept hg (by simp))
  have HM20 := Lib.hid (grown_trans HM19.out hg)
  have HK020 := Lib.hid (HK019.out.kept hg (by simp))
  have HK120 := Lib.hid (HK119.out.kept hg (by simp))
  have HK220 := Lib.hid (HK219.out.kept hg (by simp))
  have HZ20 := Lib.hid (HZ19.out.kept hg (by simp))
  clear HU019 HU119 HU219 HW19 HJ19 HM19 HK019 HK119 HK219 HZ19 cJ0 cJ1 hg
  go_wp2
  go_ret
  exact ⟨rfl, HG20.out⟩
end Go.Proofs.YtgidhfcnjboieaaDoor
