/- The words of a request, cut by the program. -/
import Derived.Test.YtecekbhkombnnaaDoorRN
namespace Go.Proofs.YtecekbhkombnnaaDoor
open Go.RowKit

theorem grown_iter (w : World) (k : Nat) (s : ByteArray) (pos : Nat) : w.grownBy (w.iterAt k s pos) (some k) :=
  ⟨rfl, rfl, rfl, by rw [Lib.iterAt_size]; exact Nat.le_refl _, fun i _ hr => Lib.iterAt_other w k i s pos (fun e => hr (by rw [e]))⟩
/-- where the next word ends -/
theorem word_hit (p : ByteArray) (n frm pos : Nat) (hr : restK n p = p.extract frm p.size) (hf : frm ≤ pos) (hp : pos < p.size) (h32 : p[pos].toNat = 32) (hno : ∀ j (hj : j < p.size), frm ≤ j → j < pos → p[j].toNat ≠ 32) :
    0 ≤ atB 32 (restK n p) ∧ wordK n p = p.extract frm pos ∧ restK (n + 1) p = p.extract (pos + 1) p.size := by
  have hl : p.data.toList.length = p.size := by simp
  have hx : (restK n p).data.toList = p.data.toList.drop frm := by
    rw [hr, extract_list, List.take_of_length_le]
    rw [List.length_drop]; omega
  have hat : atB 32 (restK n p) = ((pos - frm : Nat) : Int) := by
    refine atB_get 32 _ _ ?_ (fun j hj e => ?_)
    · rw [hx, List.getElem?_drop, show frm + (pos - frm) = pos by omega, dataB_get p pos hp]
      exact congrArg some (UInt8.toNat_inj.1 h32)
    · rw [hx, List.getElem?_drop, dataB_get p (frm + j) (by omega)] at e
      refine hno (frm + j) (by omega) (by omega) (by omega) ?_
      rw [Option.some.inj e]; rfl
  refine ⟨by omega, ?_, ?_⟩
  · rw [show wordK n p = _ from headB_at 32 _ _ hat]
    apply bytes_ext
    rw [extract_list, hx, extract_list, List.drop_zero, Nat.sub_zero]
  · rw [show restK (n + 1) p = _ from restB_at 32 _ _ hat]
    apply bytes_ext
    have hsz : (restK n p).size = p.size - frm := by rw [hr, ByteArray.size_extract]; omega
    rw [extract_list, hx, extract_list, hsz, List.drop_drop, show frm + (pos - frm + 1) = pos + 1 by omega]
    rw [List.take_of_length_le (by rw [List.length_drop]; omega), List.take_of_length_le (by rw [List.length_drop]; omega)]
theorem word_miss (p : ByteArray) (n frm : Nat) (hr : restK n p = p.extract frm p.size) (hno : ∀ j (hj : j < p.size), frm ≤ j → p[j].toNat ≠ 32) : atB 32 (restK n p) = -1 := by
  have hl : p.data.toList.length = p.size := by simp
  have hx : (restK n p).data.toList = p.data.toList.drop frm := by
    rw [hr, extract_list, List.take_of_length_le]
    rw [List.length_drop]; omega
  rw [← free_iff]
  intro h
  rw [hx] at h
  obtain ⟨j, hj, e⟩ := List.mem_iff_getElem.1 h
  rw [List.length_drop] at hj
  have e2 : (p.data.toList.drop frm)[j]? = some 32 := by rw [List.getElem?_eq_getElem (by rw [List.length_drop]; omega), e]
  rw [List.getElem?_drop, dataB_get p (frm + j) (by omega)] at e2
  refine hno (frm + j) (by omega) (by omega) ?_
  rw [Option.some.inj e2]; rfl
/-- words so far, and nothing behind them -/
def cutL (p : ByteArray) (n : Nat) : List ByteArray := ((List.range n).map fun j => wordK j p) ++ List.replicate (7 - n) ⟨#[]⟩
theorem cutL_len (p : ByteArray) (n : Nat) (h : n ≤ 7) : (cutL p n).length = 7 := by simp [cutL]; omega
theorem cutL_get (p : ByteArray) (n j : Nat) (h : n ≤ j) (h7 : j < 7) : (strs (cutL p n))[j]? = some (.string ⟨#[]⟩) := by
  unfold cutL strs
  rw [List.getElem?_map, List.getElem?_append_right (by simp; omega), List.length_map, List.length_range, List.getElem?_replicate, if_pos (by omega)]
  rfl
theorem cutL_set (p : ByteArray) (n : Nat) (h : n < 7) : (strs (cutL p n)).set n (.string (wordK n p)) = strs (cutL p (n + 1)) := by
  unfold cutL strs
  rw [List.map_append, List.set_append_right _ _ (by simp), List.map_replicate]
  have h2 : 7 - n = (7 - (n + 1)) + 1 := by omega
  simp only [List.length_map, List.length_range, Nat.sub_self]
  rw [h2, List.replicate_succ, List.set_cons_zero, List.range_succ]
  simp
/-- all words, and the text -/
def cutF (p : ByteArray) : List ByteArray := [wordK 0 p, wordK 1 p, wordK 2 p, wordK 3 p, wordK 4 p, wordK 5 p, restK 6 p]
theorem cutF_set (p : ByteArray) : (strs (cutL p 6)).set 6 (.string (restK 6 p)) = strs (cutF p) := rfl
/-- how the cutting ends -/
def CutE (e : Ending) (p : ByteArray) : Prop := ∃ (L : List ByteArray) (b : Bool), L.length = 7 ∧ e = .returned (.tuple #[.agg (strs L).toArray, .bool b]) ∧ ((b = true ∧ SixW 6 p ∧ L = cutF p) ∨ (b = false ∧ ¬ SixW 6 p))

theorem info7 : (Tryd.prog.info? 48).map (·.size) = some 7 := by kernel_rfl
theorem strs_cell (L : List ByteArray) : ∀ v ∈ strs L, v.oneCell' = true := by
  intro v hv
  obtain ⟨x, -, rfl⟩ := List.mem_map.1 hv
  rfl

set_option maxRecDepth 100000 in
set_option maxHeartbeats 8000000 in
theorem icut_any (w : World) (p : ByteArray) (hs : p.size ≤ 1048576) : Calls Tryd.prog 27 #[.string p] w fun e w' => CutE e p ∧ w.grownBy w' none := by
  obtain ⟨W0, hW0⟩ : ∃ W0, (w.alloc (Obj.cells #[Value.string ⟨#[]⟩, .string ⟨#[]⟩, .string ⟨#[]⟩, .string ⟨#[]⟩, .string ⟨#[]⟩, .string ⟨#[]⟩, .string ⟨#[]⟩] 48)).alloc (Obj.cells #[Value.string ⟨#[]⟩, .string ⟨#[]⟩, .string ⟨#[]⟩, .string ⟨#[]⟩, .string ⟨#[]⟩, .string ⟨#[]⟩, .string ⟨#[]⟩] 48) = W0 := ⟨_, rfl⟩
  obtain ⟨BR, hBR⟩ : ∃ x, w.heap.size = x := ⟨_, rfl⟩
  obtain ⟨BW, hBW⟩ : ∃ x, w.heap.size + 1 = x := ⟨_, rfl⟩
  obtain ⟨BI, hBI⟩ : ∃ x, w.heap.size + 1 + 1 = x := ⟨_, rfl⟩
  have hsz : W0.heap.size = w.heap.size + 2 := by rw [← hW0]; simp
  have hb0 : Blk W0 BR 48 (strs (cutL p 0)) := by rw [← hW0, ← hBR]; exact (Blk.new w 48 (strs (cutL p 0))).alloc _
  have hb1 : Blk W0 BW 48 (strs (cutL p 0)) := by
    rw [← hW0, ← hBW]
    have h1 := Blk.new (w.alloc (Obj.cells (strs (cutL p 0)).toArray 48)) 48 (strs (cutL p 0))
    rw [show (w.alloc (Obj.cells (strs (cutL p 0)).toArray 48)).heap.size = w.heap.size + 1 from by simp] at h1
    exact h1
  obtain ⟨W1, hW1⟩ : ∃ W1, W0.iter p 0 = W1 := ⟨_, rfl⟩
  have HB0 := Lib.hid (show Blk W1 BR 48 (strs (cutL p 0)) from by rw [← hW1]; exact Blk.alloc hb0 _)
  have HB1 := Lib.hid (show Blk W1 BW 48 (strs (cutL p 0)) from by rw [← hW1]; exact Blk.alloc hb1 _)
  have HIT := Lib.hid (show W1.heap[BI]? = some (.stringIter p 0) from by rw [← hW1, ← hBI, show w.heap.size + 1 + 1 = W0.heap.size by omega]; exact World.iter_heap W0 p 0)
  have HG := Lib.hid (show w.grownBy W1 none from by rw [← hW1, ← hW0]; exact grown_alloc (grown_alloc (grown_alloc (grown_refl _ _) _) _) _)
  have HNE := Lib.hid (show w.heap.size ≤ BR ∧ BR < BW ∧ BW < BI from by omega)
  have HW0 := Lib.hid hW0
  have HW1 := Lib.hid hW1
  have HBR := Lib.hid hBR
  have HBW := Lib.hid hBW
  have HBI := Lib.hid hBI
  clear hW0 hW1 hBR hBW hBI hsz hb0 hb1
  go_enter Tryd.func27, Tryd.ntmps27
  go_wp2
  rw [HW0.out, HW1.out, HBI.out, HBW.out, HBR.out]
  clear HW0 HW1
  go_loopg [5, 6] p.size (fun gf nv fv wx => ∃ (pos n frm : Nat), nv = .int .i64 (n : Int) ∧ fv = .int .i64 (frm : Int) ∧ n ≤ 5 ∧ frm ≤ pos ∧ frm ≤ p.size ∧ wx.heap[BI]? = some (.stringIter p pos) ∧ Blk wx BR 48 (strs (cutL p 0)) ∧ Blk wx BW 48 (strs (cutL p n)) ∧ w.grownBy wx none ∧ Hid (restK n p = p.extract frm p.size) ∧ Hid (∀ j (hj : j < p.size), frm ≤ j → j < pos → p[j].toNat ≠ 32) ∧ Hid (SixW n p) ∧ p.size ≤ pos + gf)
  case atStart => exact ⟨0, 0, 0, rfl, rfl, by omega, Nat.le_refl _, Nat.zero_le _, HIT.out, HB0.out, HB1.out, HG.out, Lib.hid (by apply bytes_ext; rw [extract_list, List.drop_zero, Nat.sub_zero, List.take_of_length_le (by simp)]; rfl), Lib.hid fun j hj h1 h2 => by omega, Lib.hid fun j hj => by omega, by omega⟩
  case round =>
    clear HB0 HB1 HIT HG
    obtain ⟨pos, n, frm, rfl, rfl, hn5, hfp, hfs, hit, hb0, hb1, hg, HRE, HNO, HSX, hfu⟩ := hrel
    have HB0 := Lib.hid hb0
    have HB1 := Lib.hid hb1
    have HG := Lib.hid hg
    clear hb0 hb1 hg
    by_cases hps : pos < p.size
    · obtain ⟨g', rfl⟩ : ∃ g', gk = g' + 1 := ⟨gk - 1, by omega⟩
      have hnx : ∀ ty, (Instr.next (.pointer (some ⟨BI, 0, none⟩)) true ty).run Tryd.prog wr = _ := fun ty => Lib.run_next_any_at wr BI p pos ty hit hps
      have hwd := Lib.width_pos p pos
      obtain ⟨R, hR⟩ : ∃ R, (Utf8.decode p pos).1 = R := ⟨_, rfl⟩
      obtain ⟨K, hK⟩ : ∃ K, (Utf8.decode p pos).2 = K := ⟨_, rfl⟩
      have HDE := Lib.hid (show ((p[pos]'hps).toNat = R ∧ K = 1) ∨ (128 ≤ R ∧ ∀ j (hj : j < p.size), pos ≤ j → j < pos + K → 128 ≤ p[j].toNat) from by
        by_cases ha : (p[pos]'hps).toNat < 128
        · have hd := decode_ascii p pos hps ha
          rw [hd] at hR hK
          exact .inl ⟨hR, hK.symm⟩
        · have hd := decode_high p pos hps (by omega)
          rw [hR] at hd
          refine .inr ⟨hd.1, fun j hj h1 h2 => ?_⟩
          by_cases e : j = pos
          · subst e; omega
          · exact decode_rest p pos j hj (by omega) (by rw [hK]; exact h2))
      rw [hR, hK] at hnx
      rw [hK] at hwd
      have hit2 := Lib.iterAt_heap wr BI p pos (pos + K) hit
      obtain ⟨W, hWd⟩ : ∃ W, wr.iterAt BI p (pos + K) = W := ⟨_, rfl⟩
      have hgi : wr.grownBy W (some BI) := by rw [← hWd]; exact grown_iter _ _ _ _
      rw [hWd] at hnx hit2
      have HIT := Lib.hid hit2
      have HB0' := Lib.hid (HB0.out.kept hgi (by have := HNE.out; simp; omega))
      have HB1' := Lib.hid (HB1.out.kept hgi (by have := HNE.out; simp; omega))
      have HG' := Lib.hid (grown_into HG.out hgi (by have := HNE.out; omega))
      have HWD := Lib.hid hwd
      clear hR hK hgi hit2 hWd hwd HB0 HB1 HG
      by_cases c3 : (R : Int) = 32
      · have c3b : ((R : Int) == 32) = true := by simp [c3]
        have HH := Lib.hid (show p[pos].toNat = 32 ∧ K = 1 from by
          rcases HDE.out with ⟨h2, h3⟩ | ⟨h2, h3⟩
          · exact ⟨by omega, h3⟩
          · omega)
        have HW := Lib.hid (word_hit p n frm pos HRE.out hfp hps HH.out.1 HNO.out)
        have HSX' := Lib.hid (show SixW (n + 1) p from fun j hj => by
          by_cases e : j = n
          · subst e; exact HW.out.1
          · exact HSX.out j (by omega))
        obtain ⟨X, hX⟩ : ∃ X, p.extract frm pos = X := ⟨_, rfl⟩
        have HCS := Lib.hid (show (strs (cutL p n)).set n (.string X) = strs (cutL p (n + 1)) from by rw [← hX, ← HW.out.2.1]; exact cutL_set p n (by omega))
        have q1 : (frm : Int) ≤ (pos : Int) := by omega
        have q2 : (pos : Int) ≤ (p.size : Int) := by omega
        have q3 : (n : Int) < 7 := by omega
        have q4 : (n : Int) ≤ 5 := by omega
        have q5 : (pos : Int) + 1 ≤ p.size := by omega
        have dn : W.cell? ⟨BW, n, none⟩ = some (.string ⟨#[]⟩) := HB1'.out.cell (cutL_get p n n (Nat.le_refl _) (by omega))
        have fn := HB1'.out.frozen n
        clear c3
        by_cases h5 : n = 5
        · subst h5
          obtain ⟨Y, hY⟩ : ∃ Y, p.extract (pos + 1) p.size = Y := ⟨_, rfl⟩
          have HYE := Lib.hid (show restK 6 p = Y from by rw [← hY]; exact HW.out.2.2)
          have HF := Lib.hid (show Blk ((W.setCell ⟨BW, 5, none⟩ (.string X)).setCell ⟨BW, 6, none⟩ (.string Y)) BW 48 (strs (cutF p)) from by
            have h1 := (HB1'.out.set 5 (.string X))
            rw [HCS.out] at h1
            have h2 := h1.set 6 (.string Y)
            rw [← HYE.out, cutF_set p] at h2
            rw [← HYE.out]
            exact h2)
          have HRS := Lib.hid (show Blk ((W.setCell ⟨BW, 5, none⟩ (.string X)).setCell ⟨BW, 6, none⟩ (.string Y)) BR 48 (strs (cutL p 0)) from (HB0'.out.kept (grown_set (grown_set (grown_refl W (some BW)) 5 _) 6 _) (by have := HNE.out; simp; omega)))
          have HGF := Lib.hid (show w.grownBy ((W.setCell ⟨BW, 5, none⟩ (.string X)).setCell ⟨BW, 6, none⟩ (.string Y)) none from grown_into HG'.out (grown_set (grown_set (grown_refl W (some BW)) 5 _) 6 _) (by have := HNE.out; omega))
          have d6 : W.cell? ⟨BW, 6, none⟩ = some (.string ⟨#[]⟩) := HB1'.out.cell (cutL_get p 5 6 (by omega) (by omega))
          have f6 := HB1'.out.frozen 6
          have HSX6 := Lib.hid (show SixW 6 p from HSX'.out)
          go_wp2_with (first
            | (refine wpList_load_blk rfl 48 _ rfl BW (strs (cutF p)) 48 HF.out _ Tryd.underlying48 rfl info7 rfl ?_)
            | (refine wpList_store_blk rfl 48 _ _ rfl BR (strs (cutF p)) (strs (cutL p 0)) 48 HRS.out info7 rfl (strs_cell _) rfl rfl ?_; intro w2 hb2 hg2))
          exact ⟨rfl, _, results_blk Tryd.results27 _ _ BR 48 _ _ _ hb2.out Tryd.underlying48 rfl info7 rfl rfl, ⟨cutF p, true, rfl, rfl, .inl ⟨rfl, HSX6.out, rfl⟩⟩, grown_into HGF.out hg2.out (by have := HNE.out; omega)⟩
        · have h5b : ((n : Int) + 1 == 6) = false := by rw [beq_eq_false_iff_ne]; omega
          have HN5 := Lib.hid h5
          clear h5
          go_wp2
          go_roundg g'
          case measure => omega
          case rel =>
            refine ⟨pos + K, n + 1, pos + 1, by go_num, by go_num, by have := HN5.out; omega, by have := HWD.out; omega, by omega, ?_, ?_, ?_, ?_, Lib.hid HW.out.2.2, Lib.hid ?_, HSX', by have := HWD.out; omega⟩
            · rw [heap_setCell_other _ _ _ _ (by have := HNE.out; show BI ≠ BW; omega)]; exact HIT.out
            · exact HB0'.out.kept (grown_set (grown_refl W (some BW)) n _) (by have := HNE.out; simp; omega)
            · have h1 := HB1'.out.set n (.string X)
              rw [HCS.out] at h1
              exact h1
            · exact grown_into HG'.out (grown_set (grown_refl W (some BW)) n _) (by have := HNE.out; omega)
            · intro j hj h1 h2
              have := HH.out.2
              omega
      · have c3b : ((R : Int) == 32) = false := by simp [c3]
        have HNO' := Lib.hid (show ∀ j (hj : j < p.size), frm ≤ j → j < pos + K → p[j].toNat ≠ 32 from fun j hj h1 h2 => by
          by_cases h3 : j < pos
          · exact HNO.out j hj h1 h3
          · rcases HDE.out with ⟨h4, h5⟩ | ⟨h4, h5⟩
            · obtain rfl : j = pos := by omega
              omega
            · have := h5 j hj (by omega) h2
              omega)
        clear c3
        go_wp2
        go_roundg g'
        case measure => omega
        case rel => exact ⟨pos + K, n, frm, rfl, rfl, hn5, by omega, hfs, HIT.out, HB0'.out, HB1'.out, HG'.out, HRE, HNO', HSX, by have := HWD.out; omega⟩
    · have hnx : ∀ ty, (Instr.next (.pointer (some ⟨BI, 0, none⟩)) true ty).run Tryd.prog wr = _ := fun ty => Lib.run_next_end_at wr BI p pos ty hit hps
      have HNS := Lib.hid (show ¬ SixW 6 p from fun h => by
        have h1 := h n (by omega)
        rw [word_miss p n frm HRE.out (fun j hj h2 => HNO.out j hj h2 (by omega))] at h1
        omega)
      have HLN := cutL_len p n (by omega)
      go_wp2_with (first
        | (refine wpList_load_blk rfl 48 _ rfl BW (strs (cutL p n)) 48 HB1.out _ Tryd.underlying48 rfl (by rw [strs_len, HLN]; exact info7) rfl ?_)
        | (refine wpList_store_blk rfl 48 _ _ rfl BR (strs (cutL p n)) (strs (cutL p 0)) 48 HB0.out (by rw [strs_len, HLN]; exact info7) (by simp only [strs, List.length_map]; rw [HLN]; rfl) (strs_cell _) rfl rfl ?_; intro w2 hb2 hg2))
      exact ⟨rfl, _, results_blk Tryd.results27 _ _ BR 48 _ _ _ hb2.out Tryd.underlying48 rfl (by rw [strs_len, HLN]; exact info7) rfl rfl, ⟨cutL p n, false, HLN, rfl, .inr ⟨rfl, HNS.out⟩⟩, grown_into HG.out hg2.out (by have := HNE.out; omega)⟩
end Go.Proofs.YtecekbhkombnnaaDoor
