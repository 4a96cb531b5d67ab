/- A tape opened, by the program. -/
import Derived.Test.YtgidhfcnjboieaaDoorO4
import Derived.Deep.LoopGhost
namespace Go.Proofs.YtgidhfcnjboieaaDoor
open Go.RowKit

theorem SO.grownAt {w V V' : World} {BX BR X CU : Nat} {xi : List Value} {v3 v v2 : Value} {A C : List ByteArray} (h : SO w BX BR X xi v3 A C v v2 V) (hg : V.grownBy V' (some CU)) (hn : X ≠ CU ∧ BX ≠ CU ∧ BR ≠ CU ∧ w.heap.size ≤ CU) (h1 : ∀ q, v.ownBlock = some q → q ≠ CU) (h2 : ∀ q, v2.ownBlock = some q → q ≠ CU) (h3 : ∀ q, v3.ownBlock = some q → q ≠ CU) : SO w BX BR X xi v3 A C v v2 V' :=
  ⟨⟨h.1.1.kept hg (fun q hq e => h1 q hq (Option.some.inj e)), h.1.2.1.kept hg (fun q hq e => h2 q hq (Option.some.inj e)), h.1.2.2.kept hg (fun q hq e => h3 q hq (Option.some.inj e))⟩, ⟨h.2.1.1.kept hg (fun e => hn.1 (Option.some.inj e)), h.2.1.2.1.kept hg (fun e => hn.2.1 (Option.some.inj e)), h.2.1.2.2.kept hg (fun e => hn.2.2.1 (Option.some.inj e))⟩, h.2.2.1, ⟨grown_into h.2.2.2.1 hg hn.2.2.2, h.2.2.2.2⟩⟩
/-- the cursor's block, beside two rows that are added to -/
def CO (CU : Nat) (p : ByteArray) (g o m d : Nat) (v v2 : Value) (V : World) : Prop :=
  Blk V CU 55 [.string p, .slice (some ⟨g, o, none⟩) m d] ∧ (∀ q, v.ownBlock = some q → q ≠ CU) ∧ (∀ q, v2.ownBlock = some q → q ≠ CU)
theorem CO.grown {CU : Nat} {p : ByteArray} {g o m d : Nat} {v v2 : Value} {V V' : World} (h : CO CU p g o m d v v2 V) (hg : V.grownBy V' none) : CO CU p g o m d v v2 V' := ⟨h.1.kept hg (by simp), h.2⟩
theorem CO.alloc {CU : Nat} {p : ByteArray} {g o m d : Nat} {v v2 : Value} {V : World} (h : CO CU p g o m d v v2 V) (x : Obj) : CO CU p g o m d v v2 (V.alloc x) := h.grown (World.grownBy_alloc V x none)
theorem CO.add {CU : Nat} {p : ByteArray} {g o m d : Nat} {v v' v2 : Value} {V V' : World} (h : CO CU p g o m d v v2 V) (hg : V.grownBy V' v.ownBlock) (ho : ∀ q, v'.ownBlock = some q → v.ownBlock = some q ∨ V.heap.size ≤ q) : CO CU p g o m d v' v2 V' :=
  ⟨h.1.kept hg (fun e => h.2.1 _ e.symm rfl), fun q hq => by
    have hl := h.1.lt
    rcases ho q hq with e | e
    · exact h.2.1 q e
    · omega, h.2.2⟩
theorem CO.add2 {CU X : Nat} {p : ByteArray} {g o m d : Nat} {v v2 v' x : Value} {V V' : World} (h : CO CU p g o m d v v2 V) (hg : V.grownBy V' v2.ownBlock) (ho : ∀ q, v'.ownBlock = some q → v2.ownBlock = some q ∨ V.heap.size ≤ q) (hx : X ≠ CU) : CO CU p g o m d v v' (V'.setCell ⟨X, 0, none⟩ x) :=
  ⟨(h.1.kept hg (fun e => h.2.2 _ e.symm rfl)).kept (grown_set (grown_refl V' (some X)) 0 x) (fun e => hx (Option.some.inj e).symm), h.2.1, fun q hq => by
    have hl := h.1.lt
    rcases ho q hq with e | e
    · exact h.2.2 q e
    · omega⟩

set_option maxRecDepth 100000 in
set_option maxHeartbeats 8000000 in
theorem iopen_any (w : World) (hw : Tabs w) (hp : Pow w) (gs cs : Nat) (a2 : Option Addr) (n2 c2 : Nat) (ss : List ByteArray) (hgs : gs < w.heap.size) (hcs : ss.length ≤ cs) (hs : At w ⟨gs, 0, none⟩ ss) (z1 : ∀ s ∈ ss, s.size ≤ 1048576) :
    Calls Tryd.prog 8 #[.agg #[.slice (some ⟨gs, 0, none⟩) ss.length cs, .slice a2 n2 c2]] w fun e w' => ∃ x, e = .returned x ∧ Opened w ss x w' := by
  have HT := Lib.hid hw
  have HP := Lib.hid hp
  have HL := Lib.hid hs
  have HZ := Lib.hid z1
  have HGS := Lib.hid hgs
  obtain ⟨i9, hi9, hz0, hz1, hz2⟩ := info_parts info9g
  obtain ⟨W, hWe⟩ : ∃ W, ((((w.alloc (Obj.cells #[Value.slice (some ⟨gs, 0, none⟩) ss.length cs, .slice a2 n2 c2] 25)).alloc (Obj.cells #[Value.slice none 0 0, .slice none 0 0] 25)).alloc (Obj.cells #[Value.slice none 0 0, .slice none 0 0] 25)).alloc (Obj.cells #[Value.string ⟨#[]⟩, .slice (some ⟨gs, 0, none⟩) ss.length cs] 55)) = W := ⟨_, rfl⟩
  have HW := Lib.hid hWe
  have HSW := Lib.hid (show W.heap.size = w.heap.size + 4 from by rw [← hWe]; simp)
  have HG := Lib.hid (show w.grownBy W none from by rw [← hWe]; exact grown_alloc (grown_alloc (grown_alloc (grown_alloc (grown_refl _ _) _) _) _) _)
  have hb0 : Blk W w.heap.size 25 [Value.slice (some ⟨gs, 0, none⟩) ss.length cs, .slice a2 n2 c2] := by rw [← hWe]; exact (((Blk.new w 25 _).alloc _).alloc _).alloc _
  have hb1 : Blk W (w.heap.size + 1) 25 [Value.slice none 0 0, .slice none 0 0] := by
    rw [← hWe]
    have := ((Blk.new (w.alloc (Obj.cells #[Value.slice (some ⟨gs, 0, none⟩) ss.length cs, .slice a2 n2 c2] 25)) 25 [Value.slice none 0 0, .slice none 0 0]).alloc (Obj.cells #[Value.slice none 0 0, .slice none 0 0] 25)).alloc (Obj.cells #[Value.string ⟨#[]⟩, .slice (some ⟨gs, 0, none⟩) ss.length cs] 55)
    simpa using this
  have hb2 : Blk W (w.heap.size + 1 + 1) 25 [Value.slice none 0 0, .slice none 0 0] := by
    rw [← hWe]
    have := (Blk.new ((w.alloc (Obj.cells #[Value.slice (some ⟨gs, 0, none⟩) ss.length cs, .slice a2 n2 c2] 25)).alloc (Obj.cells #[Value.slice none 0 0, .slice none 0 0] 25)) 25 [Value.slice none 0 0, .slice none 0 0]).alloc (Obj.cells #[Value.string ⟨#[]⟩, .slice (some ⟨gs, 0, none⟩) ss.length cs] 55)
    simpa using this
  have hb3 : Blk W (w.heap.size + 1 + 1 + 1) 55 [Value.string ⟨#[]⟩, .slice (some ⟨gs, 0, none⟩) ss.length cs] := by
    rw [← hWe]
    have := Blk.new (((w.alloc (Obj.cells #[Value.slice (some ⟨gs, 0, none⟩) ss.length cs, .slice a2 n2 c2] 25)).alloc (Obj.cells #[Value.slice none 0 0, .slice none 0 0] 25)).alloc (Obj.cells #[Value.slice none 0 0, .slice none 0 0] 25)) 55 [Value.string ⟨#[]⟩, .slice (some ⟨gs, 0, none⟩) ss.length cs]
    simpa using this
  have hso : SO w w.heap.size (w.heap.size + 1) (w.heap.size + 1 + 1) [Value.slice (some ⟨gs, 0, none⟩) ss.length cs, .slice a2 n2 c2] (.slice none 0 0) [] [] (.slice none 0 0) (.slice none 0 0) W :=
    ⟨⟨Row.nil _ _, Row.nil _ _, Row.nil _ _⟩, ⟨hb2, hb0, hb1⟩, ⟨fun q hq => by simp [Value.ownBlock] at hq, fun q hq => by simp [Value.ownBlock] at hq, fun q hq => by simp [Value.ownBlock] at hq⟩, HG.out, by omega, by omega, by omega⟩
  have hco : CO (w.heap.size + 1 + 1 + 1) ⟨#[]⟩ gs 0 ss.length cs (.slice none 0 0) (.slice none 0 0) W := ⟨hb3, fun q hq => by simp [Value.ownBlock] at hq, fun q hq => by simp [Value.ownBlock] at hq⟩
  obtain ⟨CU, hCU⟩ : ∃ x, w.heap.size + 1 + 1 + 1 = x := ⟨_, rfl⟩
  obtain ⟨X, hX⟩ : ∃ x, w.heap.size + 1 + 1 = x := ⟨_, rfl⟩
  obtain ⟨BR, hBR⟩ : ∃ x, w.heap.size + 1 = x := ⟨_, rfl⟩
  obtain ⟨BX, hBX⟩ : ∃ x, w.heap.size = x := ⟨_, rfl⟩
  have HSO0 : Hid (SO w BX BR X [Value.slice (some ⟨gs, 0, none⟩) ss.length cs, .slice a2 n2 c2] (.slice none 0 0) [] [] (.slice none 0 0) (.slice none 0 0) W) := Lib.hid (by rw [← hX, ← hBR, ← hBX]; exact hso)
  have HCO0 : Hid (CO CU ⟨#[]⟩ gs 0 ss.length cs (.slice none 0 0) (.slice none 0 0) W) := Lib.hid (by rw [← hCU]; exact hco)
  have HNE := Lib.hid (show X ≠ CU ∧ BX ≠ CU ∧ BR ≠ CU ∧ w.heap.size ≤ CU from ⟨by omega, by omega, by omega, by omega⟩)
  have HWB := Lib.hid (show w.heap.size ≤ BR from by omega)
  have E3 := Lib.hid hCU
  have E2 := Lib.hid hX
  have E1 := Lib.hid hBR
  have E0 := Lib.hid hBX
  clear hw hp hs hgs z1 hWe hb0 hb1 hb2 hb3 hso hco hCU hX hBR hBX HSW
  go_enter Tryd.func8, Tryd.ntmps8
  go_wp2
  go_step3
  go_wp2
  go_step3
  go_wp2
  rw [HW.out, E3.out, E2.out, E1.out, E0.out]
  clear HW E3 E2 E1 E0
  go_loopg [4] ss.length (fun gf sv wr => ∃ (k d o : Nat) (p : ByteArray) (v2 : Value), k + gf = ss.length ∧ gf ≤ d ∧ (0 < gf → o = k) ∧ k ≤ 220 ∧ Hid (∀ j (h : j < ss.length), j < k → wholeB ss[j] = true) ∧ Hid (SO w BX BR X [Value.slice (some ⟨gs, 0, none⟩) ss.length cs, .slice a2 n2 c2] (.slice none 0 0) ((ss.take k).map recT) (ss.take k) sv v2 wr) ∧ Hid (CO CU p gs o gf d sv v2 wr))
  case atStart => exact ⟨0, cs, 0, _, _, by omega, hcs, fun _ => rfl, by omega, Lib.hid fun j _ h => absurd h (Nat.not_lt_zero _), HSO0, HCO0⟩
  case round =>
    clear HSO0 HCO0
    obtain ⟨k, d, o, p, v2, hk, hd, ho, hk2, HA, HSO, HCO⟩ := hrel
    obtain ⟨an2, cn2, hv2, -⟩ := HSO.out.1.2.1.lies
    rw [show (ss.take k).length = k from by simp; omega] at hv2
    subst hv2
    obtain ⟨an1, cn1, hv1, -⟩ := HSO.out.1.1.lies
    rw [show ((ss.take k).map recT).length = k from by simp; omega] at hv1
    subst hv1
    rcases gk with _ | m
    · have HC := Lib.hid (next_no wr CU (some ⟨gs, o, none⟩) d (HCO.out.1.cell rfl))
      have HK := Lib.hid (show openN ss = k from openN_end ss k (by omega) hk2 HA.out (by omega))
      clear hk hd ho
      go_wp2_with fail
      refine HC.out.mono ?_
      rintro e w1 ⟨rfl, hw1⟩
      have hw1 := hw1.symm
      subst hw1
      have y0 : wr.cell? ⟨X, 0, none⟩ = some (.slice an2 k cn2) := HSO.out.2.1.1.cell rfl
      have y1 : wr.cell? ⟨X, 1, none⟩ = some (.slice none 0 0) := HSO.out.2.1.1.cell rfl
      have f0 := HSO.out.2.1.2.2.frozen 0
      have f1 := HSO.out.2.1.2.2.frozen 1
      have z0 : wr.cell? ⟨BR, 0, none⟩ = some (.slice none 0 0) := HSO.out.2.1.2.2.cell rfl
      have z1 : wr.cell? ⟨BR, 1, none⟩ = some (.slice none 0 0) := HSO.out.2.1.2.2.cell rfl
      go_wp2
      go_region
      all_goals
        go_wp2
        have hgD := grown_set (grown_set (grown_refl wr (some BR)) 0 (.slice an2 k cn2)) 1 (.slice none 0 0)
        have hbf := (HSO.out.2.1.2.2.set 0 (.slice an2 k cn2)).set 1 (.slice none 0 0)
        exact ⟨rfl, _, results_blk2 Tryd.results8 _ _ BR 25 _ _ _ hbf.drew Tryd.underlying25 rfl info26 rfl rfl, _, rfl, _, _, _, rfl, fin_open HK.out HSO.out HWB.out (by first | exact hgD | exact grown_drew hgD)⟩
    · have hlt : k < ss.length := by omega
      obtain ⟨d, rfl⟩ : ∃ d', d = d' + 1 := ⟨d - 1, by omega⟩
      obtain rfl : o = k := ho (by omega)
      obtain ⟨P, hP⟩ : ∃ P, ss[o] = P := ⟨_, rfl⟩
      have d0 : wr.cell? ⟨gs, o, none⟩ = some (.string P) := by
        have := HSO.out.2.2.2.1.cell (HL.out o (.string P) (by simp [strs, hlt, hP])) (by simp)
        by_cases hk0 : o = 0 <;> simpa [Addr.add, hk0] using this
      have HGC := Lib.hid (show gs ≠ CU from by have := HGS.out; have := HNE.out; omega)
      have HPS := Lib.hid (show P.size ≤ 1048576 from HZ.out P (by rw [← hP]; exact List.getElem_mem hlt))
      have HTA := Lib.hid (take_add ss o P hlt hP)
      obtain ⟨R, hR⟩ : ∃ R, recT P = R := ⟨_, rfl⟩
      have HRS := Lib.hid (show R.size ≤ 1048576 from by rw [← hR]; exact Nat.le_trans (recT_size P) HPS.out)
      have HNX := Lib.hid (fun (h : wholeB P = true) => show ∀ j (h : j < ss.length), j < o + 1 → wholeB ss[j] = true from fun j hj hjk => by
        by_cases e : j = o
        · subst e; rw [hP]; exact h
        · exact HA.out j hj (by omega))
      have HST := Lib.hid (fun (h : wholeB P = false) => openN_stop ss o hlt hk2 HA.out (by rw [hP]; exact h))
      have HEN := Lib.hid (fun (h : o = 220) => openN_end ss o (by omega) hk2 HA.out (.inr h))
      have HMD := Lib.hid (show o + (m + 1) = ss.length ∧ m ≤ d ∧ o ≤ 220 from ⟨by omega, by omega, by omega⟩)
      have HC := Lib.hid (next_yes wr CU gs o m d P p HCO.out.1 (by omega) d0 HGC.out)
      clear hk hd ho hP hlt
      go_wp2_with fail
      refine HC.out.mono ?_
      rintro e w1 ⟨o', ho', rfl, hb1, hg1⟩
      have HO' := Lib.hid ho'
      have HSO1 := Lib.hid (HSO.out.grownAt hg1 HNE.out HCO.out.2.1 HCO.out.2.2 (fun q hq => by simp [Value.ownBlock] at hq))
      have HCO1 := Lib.hid (show CO CU P gs o' m d (.slice an1 o cn1) (.slice an2 o cn2) w1 from ⟨hb1, HCO.out.2⟩)
      clear hg1 hb1 ho' HC HSO HCO d0
      have HTW := Lib.hid (show Tabs w1 ∧ Pow w1 from ⟨HT.out.grown HSO1.out.2.2.2.1, HP.out.grown HSO1.out.2.2.2.1⟩)
      cases hwb : wholeB P
      · have HC := Lib.hid (show Calls Tryd.prog 29 #[.pointer (some ⟨CU, 0, none⟩)] w1 (fun e w' => e = .returned (.tuple #[.string R, .bool false]) ∧ w1.grownBy w' none) from by
          have := irecord_any w1 HTW.out.1 HTW.out.2 CU P HPS.out (HCO1.out.1.cell rfl)
          rw [hwb, hR] at this
          exact this)
        have HK := Lib.hid (HST.out hwb)
        clear hwb hR HNX HST HTA HEN
        go_wp2_with fail
        refine HC.out.mono ?_
        rintro e w2 ⟨rfl, hg2⟩
        have HSO2 := Lib.hid (HSO1.out.grown hg2)
        clear hg2 HC HSO1 HCO1
        have y0 : w2.cell? ⟨X, 0, none⟩ = some (.slice an2 o cn2) := HSO2.out.2.1.1.cell rfl
        have y1 : w2.cell? ⟨X, 1, none⟩ = some (.slice none 0 0) := HSO2.out.2.1.1.cell rfl
        have f0 := HSO2.out.2.1.2.2.frozen 0
        have f1 := HSO2.out.2.1.2.2.frozen 1
        have z0 : w2.cell? ⟨BR, 0, none⟩ = some (.slice none 0 0) := HSO2.out.2.1.2.2.cell rfl
        have z1 : w2.cell? ⟨BR, 1, none⟩ = some (.slice none 0 0) := HSO2.out.2.1.2.2.cell rfl
        go_wp2
        go_region
        all_goals
          go_wp2
          have hgD := grown_set (grown_set (grown_refl w2 (some BR)) 0 (.slice an2 o cn2)) 1 (.slice none 0 0)
          have hbf := (HSO2.out.2.1.2.2.set 0 (.slice an2 o cn2)).set 1 (.slice none 0 0)
          exact ⟨rfl, _, results_blk2 Tryd.results8 _ _ BR 25 _ _ _ hbf.drew Tryd.underlying25 rfl info26 rfl rfl, _, rfl, _, _, _, rfl, fin_open HK.out HSO2.out HWB.out (by first | exact hgD | exact grown_drew hgD)⟩
      · have HC := Lib.hid (show Calls Tryd.prog 29 #[.pointer (some ⟨CU, 0, none⟩)] w1 (fun e w' => e = .returned (.tuple #[.string R, .bool true]) ∧ w1.grownBy w' none) from by
          have := irecord_any w1 HTW.out.1 HTW.out.2 CU P HPS.out (HCO1.out.1.cell rfl)
          rw [hwb, hR] at this
          exact this)
        have HNX' := Lib.hid (HNX.out hwb)
        rw [hR] at HTA
        have HLA := Lib.hid (show (strs ((ss.take o).map recT)).length ≤ 2097152 ∧ (strs (ss.take o)).length ≤ 2097152 from by simp [strs]; omega)
        clear hwb hR HNX HST
        by_cases h220 : o = 220
        · have HK := Lib.hid (HEN.out h220)
          have h220b : ((o : Int) == 220) = true := by rw [beq_iff_eq]; omega
          clear h220 HEN
          go_wp2_with fail
          refine HC.out.mono ?_
          rintro e w2 ⟨rfl, hg2⟩
          have HSO2 := Lib.hid (HSO1.out.grown hg2)
          clear hg2 HC HSO1 HCO1
          have y0 : w2.cell? ⟨X, 0, none⟩ = some (.slice an2 o cn2) := HSO2.out.2.1.1.cell rfl
          have y1 : w2.cell? ⟨X, 1, none⟩ = some (.slice none 0 0) := HSO2.out.2.1.1.cell rfl
          have f0 := HSO2.out.2.1.2.2.frozen 0
          have f1 := HSO2.out.2.1.2.2.frozen 1
          have z0 : w2.cell? ⟨BR, 0, none⟩ = some (.slice none 0 0) := HSO2.out.2.1.2.2.cell rfl
          have z1 : w2.cell? ⟨BR, 1, none⟩ = some (.slice none 0 0) := HSO2.out.2.1.2.2.cell rfl
          go_wp2
          go_region
          all_goals
            go_wp2
            have hgD := grown_set (grown_set (grown_refl w2 (some BR)) 0 (.slice an2 o cn2)) 1 (.slice none 0 0)
            have hbf := (HSO2.out.2.1.2.2.set 0 (.slice an2 o cn2)).set 1 (.slice none 0 0)
            exact ⟨rfl, _, results_blk2 Tryd.results8 _ _ BR 25 _ _ _ hbf.drew Tryd.underlying25 rfl info26 rfl rfl, _, rfl, _, _, _, rfl, fin_open HK.out HSO2.out HWB.out (by first | exact hgD | exact grown_drew hgD)⟩
        · have h220b : ((o : Int) == 220) = false := by rw [beq_eq_false_iff_ne]; omega
          have HLT := Lib.hid (show o + 1 ≤ 220 from by omega)
          have HCL := Lib.hid (fun (V : World) (s : ByteArray) (h : s.size ≤ 1048576) => clone_any V s h)
          clear h220 HEN
          go_wp2_with fail
          refine HC.out.mono ?_
          rintro e w2 ⟨rfl, hg2⟩
          have HSO2 := Lib.hid (HSO1.out.grown hg2)
          have HCO2 := Lib.hid (HCO1.out.grown hg2)
          clear hg2 HC HSO1 HCO1 HTW
          go_wp2_with fail
          refine (HCL.out w2 R HRS.out).mono ?_
          rintro e w3 ⟨rfl, hg3⟩
          have HSO3 := Lib.hid (HSO2.out.grown hg3)
          have HCO3 := Lib.hid (HCO2.out.grown hg3)
          have hsz3 : w.heap.size ≤ w3.heap.size := HSO3.out.2.2.2.1.size
          clear hg3 HSO2 HCO2
          go_wp2_with (first | (at_builtin; refine wpList_append_row2 rfl _ _ 23 rfl 9 i9 (.string ⟨#[]⟩) 16 Tryd.underlying23 hi9 hz0 hz1 hz2 rfl w.heap.size _ (strs ((ss.take o).map recT)) rfl (HSO3.out.1.1.alloc _) ⟨_, 0, none⟩ 1 1 (strs [R]) rfl rfl (news_new _ 9 (strs [R])) (strs_one _) (by have := HLA.out.1; unfold maxLen; omega) (by have := HLA.out.1; omega) (by simp; omega) ?_; intro v4 w4 HR4 HG4 HO4))
          have HSO4 := Lib.hid ((HSO3.out.alloc _).add (show Row w4 w.heap.size v4 (strs ((ss.take (o + 1)).map recT)) from by rw [HTA.out.2]; exact HR4.out) HG4.out HO4.out)
          have HCO4 := Lib.hid ((HCO3.out.alloc _).add HG4.out HO4.out)
          clear HSO3 HCO3 HR4 HG4 HO4 hsz3
          have y0 : w4.cell? ⟨X, 0, none⟩ = some (.slice an2 o cn2) := HSO4.out.2.1.1.cell rfl
          have u0 : w4.cell? ⟨CU, 0, none⟩ = some (.string P) := HCO4.out.1.cell rfl
          go_region_law (first
            | (go_simp; go_at_call 30; (with_reducible refine (HCL.out _ P HPS.out).mono ?_); rintro e w5 ⟨rfl, hg5⟩; have HSO5 := Lib.hid (HSO4.out.drew.grown hg5); have HCO5 := Lib.hid (HCO4.out.grown (grown_trans (grown_drew (grown_refl _ none)) hg5)); have hsz5 : w.heap.size ≤ w5.heap.size := HSO5.out.2.2.2.1.size; have y5 : w5.cell? ⟨X, 0, none⟩ = some (.slice an2 o cn2) := HSO5.out.2.1.1.cell rfl; have y5a : (w5.alloc (Obj.cells #[Value.string P] 9)).cell? ⟨X, 0, none⟩ = some (.slice an2 o cn2) := (HSO5.out.2.1.1.alloc _).cell rfl; clear hg5)
            | (refine step_append_row2 rfl _ _ 23 rfl 9 i9 (.string ⟨#[]⟩) 16 Tryd.underlying23 hi9 hz0 hz1 hz2 rfl w.heap.size (.slice an2 o cn2) (strs (ss.take o)) rfl (HSO5.out.1.2.1.alloc _) ⟨_, 0, none⟩ 1 1 (strs [P]) rfl rfl (news_new _ 9 (strs [P])) (strs_one _) (by have := HLA.out.2; unfold maxLen; omega) (by have := HLA.out.2; omega) (by simp; omega) ?_; intro v6 w6 HR6 HG6 HO6; have HX6 := Lib.hid (((HSO5.out.alloc _).add2 (C' := ss.take (o + 1)) (by rw [HTA.out.1]; exact HR6.out) HG6.out HO6.out)); have HY6 := Lib.hid ((HCO5.out.alloc _).add2 (x := v6) HG6.out HO6.out HNE.out.1); have e0 : w6.cell? ⟨X, 0, none⟩ = some (.slice an2 o cn2) := HX6.out.1.cell rfl; have f0 := HX6.out.1.frozen 0; obtain ⟨an6, cn6, hv6, -⟩ := HX6.out.2.2.1.2.1.lies; rw [show (ss.take (o + 1)).length = o + 1 from by have := HMD.out.1; simp; omega] at hv6; clear HR6 HG6 HO6; subst hv6))
          all_goals
            go_wp2
            go_roundg m
            case measure => omega
            case rel => exact ⟨o + 1, d, o', P, _, by have := HMD.out.1; omega, HMD.out.2.1, HO'.out, HLT.out, HNX', Lib.hid HX6.out.2.2, HY6⟩
end Go.Proofs.YtgidhfcnjboieaaDoor
