/- A tape opened, by the document: piece by piece. -/
import Derived.Test.YtgidhfcnjboieaaDoorO3
namespace Go.Proofs.YtgidhfcnjboieaaDoor
open Go.RowKit

theorem results_blk2 {P : Program} {fn : Func} {p s : Tmp} {ty : TypeId} (h : fn.results = #[.tmp s, .cell p ty]) (tmps : Array Value) (w : World) (g : Nat) (t : TypeId) (L : List Value) (d : TypeDesc) (v : Value)
    (hg : Blk w g t L) (hu : P.underlying ty = some d) (hd : (match d with | .struct _ | .array _ _ => true | _ => false) = true) (hi : (P.info? ty).map (·.size) = some L.length)
    (hp : tmps[p]?.getD undef = .pointer (some ⟨g, 0, none⟩)) (hs : tmps[s]?.getD undef = v) :
    (results fn tmps).run P w = .ok (.tuple #[v, .agg L.toArray]) w := by
  simp [results, h, hp, hs, asAddr, run_loadVar_row w g t ty L.toArray (0, 0) d hg hu hd (by simpa using hi)]

set_option maxRecDepth 100000 in
set_option maxHeartbeats 8000000 in
theorem sopen_any (w : World) (gs cs : Nat) (a2 : Option Addr) (n2 c2 : Nat) (ss : List ByteArray) (hgs : gs < w.heap.size) (hs : At w ⟨gs, 0, none⟩ ss) (z1 : ∀ s ∈ ss, s.size ≤ 1048576) :
    Calls Tryd.prog 9 #[.agg #[.slice (some ⟨gs, 0, none⟩) ss.length cs, .slice a2 n2 c2]] w fun e w' => ∃ x, e = .returned x ∧ Opened w ss x w' := by
  have HL := Lib.hid hs
  have HZ := Lib.hid z1
  have HGS := Lib.hid hgs
  obtain ⟨i9, hi9, hz0, hz1, hz2⟩ := info_parts info9g
  obtain ⟨W, hWe⟩ : ∃ W, ((((((w.alloc (Obj.cells #[Value.slice (some ⟨gs, 0, none⟩) ss.length cs, .slice a2 n2 c2] 25)).alloc (Obj.cells #[Value.slice none 0 0, .slice none 0 0] 25)).alloc (Obj.cells #[] 9)).alloc (Obj.cells #[] 9)).alloc (Obj.cells #[Value.slice (some ⟨w.heap.size + 1 + 1, 0, none⟩) 0 0, .slice (some ⟨w.heap.size + 1 + 1 + 1, 0, none⟩) 0 0] 25)).alloc (Obj.cells #[] 9)) = W := ⟨_, rfl⟩
  have HW := Lib.hid hWe
  have HSW := Lib.hid (show W.heap.size = w.heap.size + 6 from by rw [← hWe]; simp)
  have HG := Lib.hid (show w.grownBy W none from by rw [← hWe]; exact grown_alloc (grown_alloc (grown_alloc (grown_alloc (grown_alloc (grown_alloc (grown_refl _ _) _) _) _) _) _) _)
  have hb0 : Blk W w.heap.size 25 [Value.slice (some ⟨gs, 0, none⟩) ss.length cs, .slice a2 n2 c2] := by rw [← hWe]; exact (((((Blk.new w 25 _).alloc _).alloc _).alloc _).alloc _).alloc _
  have hb1 : Blk W (w.heap.size + 1) 25 [Value.slice none 0 0, .slice none 0 0] := by
    rw [← hWe]
    have := ((((Blk.new (w.alloc (Obj.cells #[Value.slice (some ⟨gs, 0, none⟩) ss.length cs, .slice a2 n2 c2] 25)) 25 [Value.slice none 0 0, .slice none 0 0]).alloc (Obj.cells #[] 9)).alloc (Obj.cells #[] 9)).alloc (Obj.cells #[Value.slice (some ⟨w.heap.size + 1 + 1, 0, none⟩) 0 0, .slice (some ⟨w.heap.size + 1 + 1 + 1, 0, none⟩) 0 0] 25)).alloc (Obj.cells #[] 9)
    simpa using this
  have hb4 : Blk W (w.heap.size + 1 + 1 + 1 + 1) 25 [Value.slice (some ⟨w.heap.size + 1 + 1, 0, none⟩) 0 0, .slice (some ⟨w.heap.size + 1 + 1 + 1, 0, none⟩) 0 0] := by
    rw [← hWe]
    have := (Blk.new ((((w.alloc (Obj.cells #[Value.slice (some ⟨gs, 0, none⟩) ss.length cs, .slice a2 n2 c2] 25)).alloc (Obj.cells #[Value.slice none 0 0, .slice none 0 0] 25)).alloc (Obj.cells #[] 9)).alloc (Obj.cells #[] 9)) 25 [Value.slice (some ⟨w.heap.size + 1 + 1, 0, none⟩) 0 0, .slice (some ⟨w.heap.size + 1 + 1 + 1, 0, none⟩) 0 0]).alloc (Obj.cells #[] 9)
    simpa using this
  have hso : SO w w.heap.size (w.heap.size + 1) (w.heap.size + 1 + 1 + 1 + 1) [Value.slice (some ⟨gs, 0, none⟩) ss.length cs, .slice a2 n2 c2] (.slice (some ⟨w.heap.size + 1 + 1 + 1, 0, none⟩) 0 0) [] [] (.slice (some ⟨w.heap.size + 1 + 1 + 1 + 1 + 1, 0, none⟩) 0 0) (.slice (some ⟨w.heap.size + 1 + 1, 0, none⟩) 0 0) W := by
    have hsz := HSW.out
    refine ⟨⟨Row.none0 (by omega) (by omega), Row.none0 (by omega) (by omega), Row.none0 (by omega) (by omega)⟩, ⟨hb4, hb0, hb1⟩, ⟨?_, ?_, ?_⟩, HG.out, by omega, by omega, by omega⟩
    · intro q hq
      have hq' : w.heap.size + 1 + 1 + 1 + 1 + 1 = q := by simpa [Value.ownBlock] using hq
      refine ⟨by omega, by omega, by omega, fun e => ?_, fun e => ?_⟩
      · have e' : w.heap.size + 1 + 1 = q := by simpa [Value.ownBlock] using e
        omega
      · have e' : w.heap.size + 1 + 1 + 1 = q := by simpa [Value.ownBlock] using e
        omega
    · intro q hq
      have hq' : w.heap.size + 1 + 1 = q := by simpa [Value.ownBlock] using hq
      refine ⟨by omega, by omega, by omega, fun e => ?_⟩
      have e' : w.heap.size + 1 + 1 + 1 = q := by simpa [Value.ownBlock] using e
      omega
    · intro q hq
      have hq' : w.heap.size + 1 + 1 + 1 = q := by simpa [Value.ownBlock] using hq
      exact ⟨by omega, by omega, by omega⟩
  obtain ⟨C5, hC5⟩ : ∃ x, w.heap.size + 1 + 1 + 1 + 1 + 1 = x := ⟨_, rfl⟩
  obtain ⟨X, hX⟩ : ∃ x, w.heap.size + 1 + 1 + 1 + 1 = x := ⟨_, rfl⟩
  obtain ⟨C3, hC3⟩ : ∃ x, w.heap.size + 1 + 1 + 1 = x := ⟨_, rfl⟩
  obtain ⟨C2, hC2⟩ : ∃ x, w.heap.size + 1 + 1 = x := ⟨_, rfl⟩
  obtain ⟨BR, hBR⟩ : ∃ x, w.heap.size + 1 = x := ⟨_, rfl⟩
  obtain ⟨BX, hBX⟩ : ∃ x, w.heap.size = x := ⟨_, rfl⟩
  have HSO0 : Hid (SO w BX BR X [Value.slice (some ⟨gs, 0, none⟩) ss.length cs, .slice a2 n2 c2] (.slice (some ⟨C3, 0, none⟩) 0 0) [] [] (.slice (some ⟨C5, 0, none⟩) 0 0) (.slice (some ⟨C2, 0, none⟩) 0 0) W) := Lib.hid (by rw [← hC5, ← hX, ← hC3, ← hC2, ← hBR, ← hBX]; exact hso)
  have HWB := Lib.hid (show w.heap.size ≤ BR ∧ w.heap.size ≤ W.heap.size from ⟨by omega, by have := HSW.out; omega⟩)
  have HNE := Lib.hid (show BX ≠ BR ∧ BX ≠ X ∧ BR ≠ X ∧ w.heap.size ≤ BX from ⟨by omega, by omega, by omega, by omega⟩)
  have E5 := Lib.hid hC5
  have E4 := Lib.hid hX
  have E3 := Lib.hid hC3
  have E2 := Lib.hid hC2
  have E1 := Lib.hid hBR
  have E0 := Lib.hid hBX
  clear hs hgs z1 hWe hb0 hb1 hb4 hso hC5 hX hC3 hC2 hBR hBX HSW
  go_enter Tryd.func9, Tryd.ntmps9
  go_wp2
  rw [HW.out, E5.out, E4.out, E3.out, E2.out, E1.out, E0.out]
  clear HW E5 E4 E3 E2 E1 E0
  go_loopw [5, 6] (fun sv i wr => ∃ (k : Nat) (v2 : Value), k ≤ ss.length ∧ i = .int .i64 k ∧ k ≤ 220 ∧ Hid (∀ j (h : j < ss.length), j < k → wholeB ss[j] = true) ∧ Hid (SO w BX BR X [Value.slice (some ⟨gs, 0, none⟩) ss.length cs, .slice a2 n2 c2] (.slice (some ⟨C3, 0, none⟩) 0 0) ((ss.take k).map recT) (ss.take k) sv v2 wr)) (fun _ i _ => ss.length - (intOf i).toNat)
  case atStart => exact ⟨0, _, Nat.zero_le _, rfl, by omega, Lib.hid fun j _ h => absurd h (Nat.not_lt_zero _), HSO0⟩
  case round =>
    clear HSO0
    obtain ⟨k, v2, hk, rfl, hk2, HA, HSO⟩ := hrel
    obtain ⟨an2, cn2, hv2, -⟩ := HSO.out.1.2.1.lies
    rw [show (ss.take k).length = k from by simp; omega] at hv2
    subst hv2
    have x0 : wr.cell? ⟨BX, 0, none⟩ = some (.slice (some ⟨gs, 0, none⟩) ss.length cs) := HSO.out.2.1.2.1.cell rfl
    have y0 : wr.cell? ⟨X, 0, none⟩ = some (.slice an2 k cn2) := HSO.out.2.1.1.cell rfl
    have y1 : wr.cell? ⟨X, 1, none⟩ = some (.slice (some ⟨C3, 0, none⟩) 0 0) := HSO.out.2.1.1.cell rfl
    by_cases hlt : k < ss.length ∧ k < 220
    · obtain ⟨hlt, h220⟩ := hlt
      have hkI : (k : Int) < ss.length := by omega
      have h220I : (k : Int) < 220 := by omega
      obtain ⟨p, hp⟩ : ∃ p, ss[k] = p := ⟨_, rfl⟩
      have d0 : wr.cell? ⟨gs, k, none⟩ = some (.string p) := by
        have := HSO.out.2.2.2.1.cell (HL.out k (.string p) (by simp [strs, hlt, hp])) (by simp)
        by_cases hk0 : k = 0 <;> simpa [Addr.add, hk0] using this
      have HPS := Lib.hid (show p.size ≤ 1048576 from HZ.out p (by rw [← hp]; exact List.getElem_mem hlt))
      have HTA := Lib.hid (take_add ss k p hlt hp)
      obtain ⟨R, hR⟩ : ∃ R, recT p = R := ⟨_, rfl⟩
      have HNX := Lib.hid (fun (h : wholeB p = true) => show ∀ j (h : j < ss.length), j < k + 1 → wholeB ss[j] = true from fun j hj hjk => by
        by_cases e : j = k
        · subst e; rw [hp]; exact h
        · exact HA.out j hj (by omega))
      have HST := Lib.hid (fun (h : wholeB p = false) => openN_stop ss k hlt hk2 HA.out (by rw [hp]; exact h))
      cases hwb : wholeB p
      · have HC := Lib.hid (show Calls Tryd.prog 31 #[.string p] wr (fun e w' => e = .returned (.tuple #[.string R, .bool false]) ∧ wr.grownBy w' none) from by
          have := swhole_any wr p HPS.out
          rw [hwb, hR] at this
          exact this)
        have HK := Lib.hid (HST.out hwb)
        clear hwb hR hp HNX HST HTA
        go_wp2_with fail
        refine HC.out.mono ?_
        rintro e w1 ⟨rfl, hg1⟩
        have HSO1 := Lib.hid (HSO.out.grown hg1)
        clear hg1 x0 y0 y1 d0 HC HSO
        have y0 : w1.cell? ⟨X, 0, none⟩ = some (.slice an2 k cn2) := HSO1.out.2.1.1.cell rfl
        have y1 : w1.cell? ⟨X, 1, none⟩ = some (.slice (some ⟨C3, 0, none⟩) 0 0) := HSO1.out.2.1.1.cell rfl
        have f0 := HSO1.out.2.1.2.2.frozen 0
        have f1 := HSO1.out.2.1.2.2.frozen 1
        have z0 : w1.cell? ⟨BR, 0, none⟩ = some (.slice none 0 0) := HSO1.out.2.1.2.2.cell rfl
        have z1 : w1.cell? ⟨BR, 1, none⟩ = some (.slice none 0 0) := HSO1.out.2.1.2.2.cell rfl
        go_wp2
        go_region
        all_goals
          go_wp2
          have hgD := grown_set (grown_set (grown_refl w1 (some BR)) 0 (.slice an2 k cn2)) 1 (.slice (some ⟨C3, 0, none⟩) 0 0)
          have hbf := (HSO1.out.2.1.2.2.set 0 (.slice an2 k cn2)).set 1 (.slice (some ⟨C3, 0, none⟩) 0 0)
          exact ⟨rfl, _, results_blk2 Tryd.results9 _ _ BR 25 _ _ _ hbf.drew Tryd.underlying25 rfl info26 rfl rfl, _, rfl, _, _, _, rfl, fin_open HK.out HSO1.out HWB.out.1 (by first | exact hgD | exact grown_drew hgD)⟩
      · have HC := Lib.hid (show Calls Tryd.prog 31 #[.string p] wr (fun e w' => e = .returned (.tuple #[.string R, .bool true]) ∧ wr.grownBy w' none) from by
          have := swhole_any wr p HPS.out
          rw [hwb, hR] at this
          exact this)
        have HNX' := Lib.hid (HNX.out hwb)
        rw [hR] at HTA
        have HLA := Lib.hid (show (strs ((ss.take k).map recT)).length ≤ 2097152 ∧ (strs (ss.take k)).length ≤ 2097152 from by simp [strs]; omega)
        clear hwb hR hp HNX HST
        go_wp2_with fail
        refine HC.out.mono ?_
        rintro e w1 ⟨rfl, hg1⟩
        have HSO1 := Lib.hid (HSO.out.grown hg1)
        have d1 : w1.cell? ⟨gs, k, none⟩ = some (.string p) := hg1.cell d0 (by simp)
        have hsz1 : w.heap.size ≤ w1.heap.size := HSO1.out.2.2.2.1.size
        clear hg1 x0 y0 y1 d0 HC HSO
        go_wp2_with (first | (at_builtin; refine wpList_append_row2 rfl _ _ 23 rfl 9 i9 (.string ⟨#[]⟩) 16 Tryd.underlying23 hi9 hz0 hz1 hz2 rfl w.heap.size _ (strs ((ss.take k).map recT)) rfl (HSO1.out.1.1.alloc _) ⟨_, 0, none⟩ 1 1 (strs [R]) rfl rfl (news_new _ 9 (strs [R])) (strs_one _) (by have := HLA.out.1; unfold maxLen; omega) (by have := HLA.out.1; omega) (by simp; omega) ?_; intro v4 w4 HR4 HG4 HO4))
        have HSO4 := Lib.hid ((HSO1.out.alloc _).add (show Row w4 w.heap.size v4 (strs ((ss.take (k + 1)).map recT)) from by rw [HTA.out.2]; exact HR4.out) HG4.out HO4.out)
        have d4 : w4.cell? ⟨gs, k, none⟩ = some (.string p) := HG4.out.cell ((World.grownBy_alloc w1 _ none).cell d1 (by simp)) (fun e => by have h1 := (HSO1.out.1.1.lt gs e.symm).1; have h2 := HGS.out; omega)
        clear HSO1 d1 HR4 HG4 HO4
        have x0 : w4.cell? ⟨BX, 0, none⟩ = some (.slice (some ⟨gs, 0, none⟩) ss.length cs) := HSO4.out.2.1.2.1.cell rfl
        have y0 : w4.cell? ⟨X, 0, none⟩ = some (.slice an2 k cn2) := HSO4.out.2.1.1.cell rfl
        have y0a : (w4.alloc (Obj.cells #[Value.string p] 9)).cell? ⟨X, 0, none⟩ = some (.slice an2 k cn2) := (HSO4.out.2.1.1.alloc _).cell rfl
        have hsz4 : w.heap.size ≤ w4.heap.size := HSO4.out.2.2.2.1.size
        go_region_law (first
          | (refine step_append_row2 rfl _ _ 23 rfl 9 i9 (.string ⟨#[]⟩) 16 Tryd.underlying23 hi9 hz0 hz1 hz2 rfl w.heap.size (.slice an2 k cn2) (strs (ss.take k)) rfl (HSO4.out.1.2.1.alloc _) ⟨_, 0, none⟩ 1 1 (strs [p]) rfl rfl (news_new _ 9 (strs [p])) (strs_one _) (by have := HLA.out.2; unfold maxLen; omega) (by have := HLA.out.2; omega) (by simp; omega) ?_; intro v5 w5 HR5 HG5 HO5; have HX5 := Lib.hid (((HSO4.out.drew.alloc _).add2 (C' := ss.take (k + 1)) (by rw [HTA.out.1]; exact HR5.out) HG5.out HO5.out)); have e0 : w5.cell? ⟨X, 0, none⟩ = some (.slice an2 k cn2) := HX5.out.1.cell rfl; have f0 := HX5.out.1.frozen 0; obtain ⟨an5, cn5, hv5, -⟩ := HX5.out.2.2.1.2.1.lies; rw [show (ss.take (k + 1)).length = k + 1 from by simp; omega] at hv5; clear HR5 HG5 HO5; subst hv5))
        all_goals
          go_wp2
          go_roundw
          case rel => exact ⟨k + 1, _, by omega, by go_num, by omega, HNX', Lib.hid HX5.out.2.2⟩
          case measure => simp [intOf]; omega
    · have hcase : k = ss.length ∨ (k < ss.length ∧ k = 220) := by omega
      have HK := Lib.hid (show openN ss = k from openN_end ss k hk hk2 HA.out (by omega))
      have f0 := HSO.out.2.1.2.2.frozen 0
      have f1 := HSO.out.2.1.2.2.frozen 1
      have z0 : wr.cell? ⟨BR, 0, none⟩ = some (.slice none 0 0) := HSO.out.2.1.2.2.cell rfl
      have z1 : wr.cell? ⟨BR, 1, none⟩ = some (.slice none 0 0) := HSO.out.2.1.2.2.cell rfl
      clear hlt
      rcases hcase with h | ⟨h, h2⟩
      · have hkI : ¬ (k : Int) < ss.length := by omega
        clear h
        go_wp2
        go_region
        all_goals
          go_wp2
          have hgD := grown_set (grown_set (grown_refl wr (some BR)) 0 (.slice an2 k cn2)) 1 (.slice (some ⟨C3, 0, none⟩) 0 0)
          have hbf := (HSO.out.2.1.2.2.set 0 (.slice an2 k cn2)).set 1 (.slice (some ⟨C3, 0, none⟩) 0 0)
          exact ⟨rfl, _, results_blk2 Tryd.results9 _ _ BR 25 _ _ _ hbf.drew Tryd.underlying25 rfl info26 rfl rfl, _, rfl, _, _, _, rfl, fin_open HK.out HSO.out HWB.out.1 (by first | exact hgD | exact grown_drew hgD)⟩
      · have hkI : (k : Int) < ss.length := by omega
        have h220I : ¬ (k : Int) < 220 := by omega
        clear h h2
        go_wp2
        go_region
        all_goals
          go_wp2
          have hgD := grown_set (grown_set (grown_refl wr (some BR)) 0 (.slice an2 k cn2)) 1 (.slice (some ⟨C3, 0, none⟩) 0 0)
          have hbf := (HSO.out.2.1.2.2.set 0 (.slice an2 k cn2)).set 1 (.slice (some ⟨C3, 0, none⟩) 0 0)
          exact ⟨rfl, _, results_blk2 Tryd.results9 _ _ BR 25 _ _ _ hbf.drew Tryd.underlying25 rfl info26 rfl rfl, _, rfl, _, _, _, rfl, fin_open HK.out HSO.out HWB.out.1 (by first | exact hgD | exact grown_drew hgD)⟩
end Go.Proofs.YtgidhfcnjboieaaDoor
