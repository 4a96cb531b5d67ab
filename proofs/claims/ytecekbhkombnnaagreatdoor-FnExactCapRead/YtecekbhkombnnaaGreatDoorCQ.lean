/- A credential as a text, by both. -/
import Derived.Test.YtecekbhkombnnaaGreatDoorCP
namespace Go.Proofs.YtecekbhkombnnaaGreatDoor
open Go.RowKit

/-- a credential as a text, up to some limit -/
def capTo (tn sp : ByteArray) (run frm unt : Nat) (ls : List ByteArray) (se : ByteArray) (k : Nat) : ByteArray := (ls.take k).foldl (fun t l => (t ++ ⟨#[59]⟩) ++ l) ((headC tn sp run frm unt ++ ⟨#[32]⟩) ++ se)
theorem capTo_add (tn sp : ByteArray) (run frm unt : Nat) (ls : List ByteArray) (se : ByteArray) (k : Nat) (h : k < ls.length) : capTo tn sp run frm unt ls se (k + 1) = (capTo tn sp run frm unt ls se k ++ ⟨#[59]⟩) ++ ls[k] := by
  unfold capTo
  rw [List.take_succ_eq_append_getElem h, List.foldl_append]
  rfl
theorem capTo_size (tn sp : ByteArray) (run frm unt : Nat) (ls : List ByteArray) (se : ByteArray) (B0 : Nat) (hz : ∀ l ∈ ls, l.size ≤ 1048576) (h0 : (capTo tn sp run frm unt ls se 0).size ≤ B0) (k : Nat) (h : k ≤ ls.length) : (capTo tn sp run frm unt ls se k).size ≤ B0 + k * 1048577 := by
  induction k with
  | zero => omega
  | succ k ih =>
    rw [capTo_add _ _ _ _ _ _ _ k (by omega), ByteArray.size_append, ByteArray.size_append]
    have := ih (by omega)
    have h2 := hz ls[k] (List.getElem_mem (by omega))
    have e : (⟨#[59]⟩ : ByteArray).size = 1 := rfl
    omega
theorem capTo_small (tn sp : ByteArray) (run frm unt : Nat) (ls : List ByteArray) (se : ByteArray) (C2 : ByteArray) (hz : ∀ l ∈ ls, l.size ≤ 1048576) (h0 : capTo tn sp run frm unt ls se 0 = C2) (h2 : C2.size ≤ 3145796) (hn : ls.length ≤ 4) (k : Nat) (h : k ≤ ls.length) : (capTo tn sp run frm unt ls se k).size ≤ 7340104 := by
  have := capTo_size tn sp run frm unt ls se C2.size hz (by rw [h0]; exact Nat.le_refl _) k h
  omega
theorem capTo_zero (tn sp : ByteArray) (run frm unt : Nat) (ls : List ByteArray) (se : ByteArray) : capTo tn sp run frm unt ls se 0 = (headC tn sp run frm unt ++ ⟨#[32]⟩) ++ se := rfl

set_option maxRecDepth 100000 in
set_option maxHeartbeats 16000000 in
theorem swrite_yes (w : World) (tn sp : ByteArray) (run frm unt : Nat) (ao : Option Addr) (cp : Nat) (ls : List ByteArray) (se : ByteArray) (base : Nat) (hl : Lies w base ao ls) (hz : ∀ l ∈ ls, l.size ≤ 1048576) (h1 : tn.size ≤ 1048576) (h2 : sp.size ≤ 1048576) (h3 : se.size ≤ 1048576) (hp : CapP tn sp run frm unt ls se) :
    Calls Tryz.prog 16 #[.agg #[.string tn, .string sp, .int .i64 (run : Int), .int .i64 (frm : Int), .int .i64 (unt : Int), .slice ao ls.length cp, .string se]] w fun e w' => e = .returned (.string (capTo tn sp run frm unt ls se ls.length)) ∧ w.grownBy w' none := by
  have hn4 : ls.length ≤ 4 := hp.2.2.1
  obtain ⟨W, hW⟩ : ∃ W, w.alloc (Obj.cells #[Value.string tn, .string sp, .int .i64 (run : Int), .int .i64 (frm : Int), .int .i64 (unt : Int), .slice ao ls.length cp, .string se] 26) = W := ⟨_, rfl⟩
  obtain ⟨B, hB⟩ : ∃ x, w.heap.size = x := ⟨_, rfl⟩
  have HG := Lib.hid (show w.grownBy W none from by rw [← hW]; exact grown_alloc (grown_refl _ _) _)
  have HB := Lib.hid (show Blk W B 26 [.string tn, .string sp, .int .i64 (run : Int), .int .i64 (frm : Int), .int .i64 (unt : Int), .slice ao ls.length cp, .string se] from by rw [← hW, ← hB]; exact Blk.new w 26 _)
  have HOK := Lib.hid ((scap_any W tn sp run frm unt ao cp ls se base (hl.kept HG.out (fun q e => by cases e)) (by omega) hz h1 h2 h3 ).mono (R' := fun e w' => e = .returned (.bool true) ∧ W.grownBy w' none) (fun e w' q => ⟨q.1.is_yes hp, q.2⟩))
  have k1 : run ≤ 999999 := by have := hp.1.2.2.2; omega
  have k2 : frm ≤ 999999 := by have := hp.2.1.1.2; omega
  have k3 : unt ≤ 999999 := by have := hp.2.1.2.2; omega
  have HSZ := Lib.hid (headC_size tn sp run frm unt (by omega) (by omega) (by omega))
  obtain ⟨H, hH⟩ : ∃ H, headC tn sp run frm unt = H := ⟨_, rfl⟩
  have HHD := Lib.hid (fun (V : World) (h : V.cell? ⟨B, 0, none⟩ = some (.string tn) ∧ V.cell? ⟨B, 1, none⟩ = some (.string sp) ∧ V.cell? ⟨B, 2, none⟩ = some (.int .i64 (run : Int)) ∧ V.cell? ⟨B, 3, none⟩ = some (.int .i64 (frm : Int)) ∧ V.cell? ⟨B, 4, none⟩ = some (.int .i64 (unt : Int)) ∧ V.cell? ⟨B, 5, none⟩ = some (.slice ao ls.length cp) ∧ V.cell? ⟨B, 6, none⟩ = some (.string se) ∧ W.grownBy V none) => (shead_base V tn sp run frm unt ao cp ls se h1 h2 k1 k2 k3).mono (R' := fun e w' => e = .returned (.string H) ∧ (w'.cell? ⟨B, 0, none⟩ = some (.string tn) ∧ w'.cell? ⟨B, 1, none⟩ = some (.string sp) ∧ w'.cell? ⟨B, 2, none⟩ = some (.int .i64 (run : Int)) ∧ w'.cell? ⟨B, 3, none⟩ = some (.int .i64 (frm : Int)) ∧ w'.cell? ⟨B, 4, none⟩ = some (.int .i64 (unt : Int)) ∧ w'.cell? ⟨B, 5, none⟩ = some (.slice ao ls.length cp) ∧ w'.cell? ⟨B, 6, none⟩ = some (.string se) ∧ W.grownBy w' none)) (fun e w' q => by rw [hH] at q; exact ⟨q.1, q.2.cell h.1 (by simp), q.2.cell h.2.1 (by simp), q.2.cell h.2.2.1 (by simp), q.2.cell h.2.2.2.1 (by simp), q.2.cell h.2.2.2.2.1 (by simp), q.2.cell h.2.2.2.2.2.1 (by simp), q.2.cell h.2.2.2.2.2.2.1 (by simp), grown_trans h.2.2.2.2.2.2.2 q.2⟩))
  have HZ := Lib.hid hz
  have HL := Lib.hid hl
  have e1 : (⟨#[32]⟩ : ByteArray).size = 1 := rfl
  obtain ⟨C1, hC1⟩ : ∃ C, H ++ ⟨#[32]⟩ = C := ⟨_, rfl⟩
  have hHs : H.size ≤ 2097219 := by rw [← hH]; have := HSZ.out; omega
  have l1 : ¬ 9223372036854775807 < H.size + 1 := by omega
  have y1 : C1.size ≤ 2097220 := by rw [← hC1, ByteArray.size_append, e1]; omega
  obtain ⟨C2, hC2⟩ : ∃ C, C1 ++ se = C := ⟨_, rfl⟩
  have l2 : ¬ 9223372036854775807 < C1.size + se.size := by omega
  have y2 : C2.size ≤ 3145796 := by rw [← hC2, ByteArray.size_append]; omega
  have H0 := Lib.hid (show capTo tn sp run frm unt ls se 0 = C2 from by rw [capTo_zero, hH, hC1, hC2])
  have HCS := Lib.hid (fun k hk => capTo_small tn sp run frm unt ls se C2 HZ.out H0.out y2 hn4 k hk)
  have HW := Lib.hid hW
  have HBE := Lib.hid hB
  have HN4 := Lib.hid hn4
  clear hW hB hl hz h1 h2 h3 hp hH k1 k2 k3 HSZ y1 y2 hHs hn4 
  go_enter Tryz.func16, Tryz.ntmps16
  go_wp2_with fail
  rw [HW.out, HBE.out]
  refine HOK.out.mono ?_
  rintro e w1 ⟨rfl, hg1⟩
  have HB1 := Lib.hid (HB.out.kept hg1 (by simp))
  have HG1 := Lib.hid hg1
  clear hg1 HOK HB HW HBE
  have HSD := Lib.hid (show w1.drew.cell? ⟨B, 0, none⟩ = some (.string tn) ∧ w1.drew.cell? ⟨B, 1, none⟩ = some (.string sp) ∧ w1.drew.cell? ⟨B, 2, none⟩ = some (.int .i64 (run : Int)) ∧ w1.drew.cell? ⟨B, 3, none⟩ = some (.int .i64 (frm : Int)) ∧ w1.drew.cell? ⟨B, 4, none⟩ = some (.int .i64 (unt : Int)) ∧ w1.drew.cell? ⟨B, 5, none⟩ = some (.slice ao ls.length cp) ∧ w1.drew.cell? ⟨B, 6, none⟩ = some (.string se) ∧ W.grownBy w1.drew none from ⟨HB1.out.drew.cell rfl, HB1.out.drew.cell rfl, HB1.out.drew.cell rfl, HB1.out.drew.cell rfl, HB1.out.drew.cell rfl, HB1.out.drew.cell rfl, HB1.out.drew.cell rfl, grown_drew HG1.out⟩)
  go_wp2
  go_region_held3 (fun V => V.cell? ⟨B, 0, none⟩ = some (.string tn) ∧ V.cell? ⟨B, 1, none⟩ = some (.string sp) ∧ V.cell? ⟨B, 2, none⟩ = some (.int .i64 (run : Int)) ∧ V.cell? ⟨B, 3, none⟩ = some (.int .i64 (frm : Int)) ∧ V.cell? ⟨B, 4, none⟩ = some (.int .i64 (unt : Int)) ∧ V.cell? ⟨B, 5, none⟩ = some (.slice ao ls.length cp) ∧ V.cell? ⟨B, 6, none⟩ = some (.string se) ∧ W.grownBy V none) (first | assumption | (with_reducible exact HSD.out))
    (first | (go_at_call 41; refine (HHD.out _ (by assumption)).mono ?_; rintro e wa ⟨rfl, hSa⟩; have HSB := Lib.hid hSa))
  clear HHD HSD HB1 HG1
  have HGA := Lib.hid HSB.out.2.2.2.2.2.2.2
  have c5 : wa.cell? ⟨B, 5, none⟩ = some (.slice ao ls.length cp) := HSB.out.2.2.2.2.2.1
  go_wp2
  go_loop [3, 4] (fun t i => ∃ k : Nat, k ≤ ls.length ∧ i = .int .i64 k ∧ t = .string (capTo tn sp run frm unt ls se k)) (fun _ i => ls.length - (intOf i).toNat)
  case atStart => exact ⟨0, Nat.zero_le _, rfl, by rw [H0.out]⟩
  case round =>
    obtain ⟨k, hk, rfl, rfl⟩ := hrel
    by_cases hlt : k < ls.length
    · rcases HL.out with h00 | ⟨ab, oo, rfl, -, hc⟩
      · omega
      obtain ⟨s, hse⟩ : ∃ s, s = ls.getD k ByteArray.empty := ⟨_, rfl⟩
      have hge : ls[k] = s := by rw [hse]; simp [hlt]
      have d0 := (grown_trans HG.out HGA.out).cell (hc k hlt) (by simp)
      rw [← hse] at d0
      have hss : s.size ≤ 1048576 := HZ.out s (by rw [← hge]; exact List.getElem_mem hlt)
      obtain ⟨T, hT⟩ : ∃ T, capTo tn sp run frm unt ls se k = T := ⟨_, rfl⟩
      have hts : T.size ≤ 7340104 := by rw [← hT]; exact HCS.out k hk
      have HST := Lib.hid (show capTo tn sp run frm unt ls se (k + 1) = (T ++ ⟨#[59]⟩) ++ s from by rw [capTo_add _ _ _ _ _ _ _ k hlt, hT, hge])
      rw [hT]
      have e2 : (⟨#[59]⟩ : ByteArray).size = 1 := rfl
      have m1 : ¬ 9223372036854775807 < T.size + 1 := by omega
      have m2 : ¬ 9223372036854775807 < T.size + 1 + s.size := by omega
      have hkI : (k : Int) < ls.length := by omega
      have hk4 : (k : Int) ≤ 4 := by have := HN4.out; omega
      clear hc hse hge hT
      go_wp2
      exact ⟨⟨k + 1, by omega, by go_num, by rw [HST.out]⟩, by simp [intOf]; omega⟩
    · obtain rfl : k = ls.length := by omega
      go_wp2
      go_ret
      exact ⟨rfl, grown_trans HG.out HGA.out⟩

set_option maxRecDepth 100000 in
set_option maxHeartbeats 4000000 in
theorem swrite_no (w : World) (tn sp : ByteArray) (run frm unt : Int) (ao : Option Addr) (cp : Nat) (ls : List ByteArray) (se : ByteArray) (base : Nat) (hl : Lies w base ao ls) (hn : ls.length ≤ 1048576) (hz : ∀ l ∈ ls, l.size ≤ 1048576) (h1 : tn.size ≤ 1048576) (h2 : sp.size ≤ 1048576) (h3 : se.size ≤ 1048576) (hp : ¬ CapP tn sp run frm unt ls se) :
    Calls Tryz.prog 16 #[.agg #[.string tn, .string sp, .int .i64 run, .int .i64 frm, .int .i64 unt, .slice ao ls.length cp, .string se]] w fun e w' => e = .returned (.string ⟨#[]⟩) ∧ w.grownBy w' none := by
  obtain ⟨W, hW⟩ : ∃ W, w.alloc (Obj.cells #[Value.string tn, .string sp, .int .i64 run, .int .i64 frm, .int .i64 unt, .slice ao ls.length cp, .string se] 26) = W := ⟨_, rfl⟩
  have HG := Lib.hid (show w.grownBy W none from by rw [← hW]; exact grown_alloc (grown_refl _ _) _)
  have HOK := Lib.hid ((scap_any W tn sp run frm unt ao cp ls se base (hl.kept HG.out (fun q e => by cases e)) hn hz h1 h2 h3 ).mono (R' := fun e w' => e = .returned (.bool false) ∧ W.grownBy w' none) (fun e w' q => ⟨q.1.is_no hp, q.2⟩))
  have HW := Lib.hid hW
  clear hW hl hz h1 h2 h3 hp 
  go_enter Tryz.func16, Tryz.ntmps16
  go_wp2_with fail
  rw [HW.out]
  refine HOK.out.mono ?_
  rintro e w1 ⟨rfl, hg1⟩
  have HG1 := Lib.hid (grown_trans HG.out hg1)
  clear hg1 HOK
  go_wp2
  go_ret
  exact ⟨rfl, HG1.out⟩

set_option maxRecDepth 100000 in
set_option maxHeartbeats 16000000 in
theorem iwrite_yes (w : World) (hE : ErrC w) (hP : Pow w) (tn sp : ByteArray) (run frm unt : Nat) (ao : Option Addr) (cp : Nat) (ls : List ByteArray) (se : ByteArray) (base : Nat) (hl : Lies w base ao ls) (hz : ∀ l ∈ ls, l.size ≤ 1048576) (h1 : tn.size ≤ 1048576) (h2 : sp.size ≤ 1048576) (h3 : se.size ≤ 1048576) (hp : CapP tn sp run frm unt ls se) :
    Calls Tryz.prog 17 #[.agg #[.string tn, .string sp, .int .i64 (run : Int), .int .i64 (frm : Int), .int .i64 (unt : Int), .slice ao ls.length cp, .string se]] w fun e w' => e = .returned (.string (capTo tn sp run frm unt ls se ls.length)) ∧ w.grownBy w' none := by
  have hn4 : ls.length ≤ 4 := hp.2.2.1
  obtain ⟨W, hW⟩ : ∃ W, w.alloc (Obj.cells #[Value.string tn, .string sp, .int .i64 (run : Int), .int .i64 (frm : Int), .int .i64 (unt : Int), .slice ao ls.length cp, .string se] 26) = W := ⟨_, rfl⟩
  obtain ⟨B, hB⟩ : ∃ x, w.heap.size = x := ⟨_, rfl⟩
  have HG := Lib.hid (show w.grownBy W none from by rw [← hW]; exact grown_alloc (grown_refl _ _) _)
  have HB := Lib.hid (show Blk W B 26 [.string tn, .string sp, .int .i64 (run : Int), .int .i64 (frm : Int), .int .i64 (unt : Int), .slice ao ls.length cp, .string se] from by rw [← hW, ← hB]; exact Blk.new w 26 _)
  have HOK := Lib.hid ((icap_any W tn sp run frm unt ao cp ls se base (hl.kept HG.out (fun q e => by cases e)) (by omega) hz h1 h2 h3 (hE.grown HG.out) (hP.grown HG.out)).mono (R' := fun e w' => e = .returned (.bool true) ∧ W.grownBy w' none) (fun e w' q => ⟨q.1.is_yes hp, q.2⟩))
  have k1 : run ≤ 999999 := by have := hp.1.2.2.2; omega
  have k2 : frm ≤ 999999 := by have := hp.2.1.1.2; omega
  have k3 : unt ≤ 999999 := by have := hp.2.1.2.2; omega
  have HSZ := Lib.hid (headC_size tn sp run frm unt (by omega) (by omega) (by omega))
  obtain ⟨H, hH⟩ : ∃ H, headC tn sp run frm unt = H := ⟨_, rfl⟩
  have HHD := Lib.hid (fun (V : World) (h : V.cell? ⟨B, 0, none⟩ = some (.string tn) ∧ V.cell? ⟨B, 1, none⟩ = some (.string sp) ∧ V.cell? ⟨B, 2, none⟩ = some (.int .i64 (run : Int)) ∧ V.cell? ⟨B, 3, none⟩ = some (.int .i64 (frm : Int)) ∧ V.cell? ⟨B, 4, none⟩ = some (.int .i64 (unt : Int)) ∧ V.cell? ⟨B, 5, none⟩ = some (.slice ao ls.length cp) ∧ V.cell? ⟨B, 6, none⟩ = some (.string se) ∧ W.grownBy V none) => (ihead_any V (hP.grown (grown_trans HG.out h.2.2.2.2.2.2.2)) tn sp run frm unt ao cp ls se h1 h2 k1 k2 k3).mono (R' := fun e w' => e = .returned (.string H) ∧ (w'.cell? ⟨B, 0, none⟩ = some (.string tn) ∧ w'.cell? ⟨B, 1, none⟩ = some (.string sp) ∧ w'.cell? ⟨B, 2, none⟩ = some (.int .i64 (run : Int)) ∧ w'.cell? ⟨B, 3, none⟩ = some (.int .i64 (frm : Int)) ∧ w'.cell? ⟨B, 4, none⟩ = some (.int .i64 (unt : Int)) ∧ w'.cell? ⟨B, 5, none⟩ = some (.slice ao ls.length cp) ∧ w'.cell? ⟨B, 6, none⟩ = some (.string se) ∧ W.grownBy w' none)) (fun e w' q => by rw [hH] at q; exact ⟨q.1, q.2.cell h.1 (by simp), q.2.cell h.2.1 (by simp), q.2.cell h.2.2.1 (by simp), q.2.cell h.2.2.2.1 (by simp), q.2.cell h.2.2.2.2.1 (by simp), q.2.cell h.2.2.2.2.2.1 (by simp), q.2.cell h.2.2.2.2.2.2.1 (by simp), grown_trans h.2.2.2.2.2.2.2 q.2⟩))
  have HZ := Lib.hid hz
  have HL := Lib.hid hl
  have e1 : (⟨#[32]⟩ : ByteArray).size = 1 := rfl
  obtain ⟨C1, hC1⟩ : ∃ C, H ++ ⟨#[32]⟩ = C := ⟨_, rfl⟩
  have hHs : H.size ≤ 2097219 := by rw [← hH]; have := HSZ.out; omega
  have l1 : ¬ 9223372036854775807 < H.size + 1 := by omega
  have y1 : C1.size ≤ 2097220 := by rw [← hC1, ByteArray.size_append, e1]; omega
  obtain ⟨C2, hC2⟩ : ∃ C, C1 ++ se = C := ⟨_, rfl⟩
  have l2 : ¬ 9223372036854775807 < C1.size + se.size := by omega
  have y2 : C2.size ≤ 3145796 := by rw [← hC2, ByteArray.size_append]; omega
  have H0 := Lib.hid (show capTo tn sp run frm unt ls se 0 = C2 from by rw [capTo_zero, hH, hC1, hC2])
  have HCS := Lib.hid (fun k hk => capTo_small tn sp run frm unt ls se C2 HZ.out H0.out y2 hn4 k hk)
  have HW := Lib.hid hW
  have HBE := Lib.hid hB
  have HN4 := Lib.hid hn4
  clear hW hB hl hz h1 h2 h3 hp hH k1 k2 k3 HSZ y1 y2 hHs hn4 hE hP
  go_enter Tryz.func17, Tryz.ntmps17
  go_wp2_with fail
  rw [HW.out, HBE.out]
  refine HOK.out.mono ?_
  rintro e w1 ⟨rfl, hg1⟩
  have HB1 := Lib.hid (HB.out.kept hg1 (by simp))
  have HG1 := Lib.hid hg1
  clear hg1 HOK HB HW HBE
  have HSD := Lib.hid (show w1.drew.cell? ⟨B, 0, none⟩ = some (.string tn) ∧ w1.drew.cell? ⟨B, 1, none⟩ = some (.string sp) ∧ w1.drew.cell? ⟨B, 2, none⟩ = some (.int .i64 (run : Int)) ∧ w1.drew.cell? ⟨B, 3, none⟩ = some (.int .i64 (frm : Int)) ∧ w1.drew.cell? ⟨B, 4, none⟩ = some (.int .i64 (unt : Int)) ∧ w1.drew.cell? ⟨B, 5, none⟩ = some (.slice ao ls.length cp) ∧ w1.drew.cell? ⟨B, 6, none⟩ = some (.string se) ∧ W.grownBy w1.drew none from ⟨HB1.out.drew.cell rfl, HB1.out.drew.cell rfl, HB1.out.drew.cell rfl, HB1.out.drew.cell rfl, HB1.out.drew.cell rfl, HB1.out.drew.cell rfl, HB1.out.drew.cell rfl, grown_drew HG1.out⟩)
  go_wp2
  go_region_held3 (fun V => V.cell? ⟨B, 0, none⟩ = some (.string tn) ∧ V.cell? ⟨B, 1, none⟩ = some (.string sp) ∧ V.cell? ⟨B, 2, none⟩ = some (.int .i64 (run : Int)) ∧ V.cell? ⟨B, 3, none⟩ = some (.int .i64 (frm : Int)) ∧ V.cell? ⟨B, 4, none⟩ = some (.int .i64 (unt : Int)) ∧ V.cell? ⟨B, 5, none⟩ = some (.slice ao ls.length cp) ∧ V.cell? ⟨B, 6, none⟩ = some (.string se) ∧ W.grownBy V none) (first | assumption | (with_reducible exact HSD.out))
    (first | (go_at_call 42; refine (HHD.out _ (by assumption)).mono ?_; rintro e wa ⟨rfl, hSa⟩; have HSB := Lib.hid hSa))
  clear HHD HSD HB1 HG1
  have HGA := Lib.hid HSB.out.2.2.2.2.2.2.2
  have c5 : wa.cell? ⟨B, 5, none⟩ = some (.slice ao ls.length cp) := HSB.out.2.2.2.2.2.1
  go_wp2
  go_loop [3, 18] (fun t i => ∃ k : Nat, k ≤ ls.length ∧ i = .int .i64 k ∧ t = .string (capTo tn sp run frm unt ls se k)) (fun _ i => ls.length - (intOf i).toNat)
  case atStart => exact ⟨0, Nat.zero_le _, rfl, by rw [H0.out]⟩
  case round =>
    obtain ⟨k, hk, rfl, rfl⟩ := hrel
    by_cases hlt : k < ls.length
    · rcases HL.out with h00 | ⟨ab, oo, rfl, -, hc⟩
      · omega
      obtain ⟨s, hse⟩ : ∃ s, s = ls.getD k ByteArray.empty := ⟨_, rfl⟩
      have hge : ls[k] = s := by rw [hse]; simp [hlt]
      have d0 := (grown_trans HG.out HGA.out).cell (hc k hlt) (by simp)
      rw [← hse] at d0
      have hss : s.size ≤ 1048576 := HZ.out s (by rw [← hge]; exact List.getElem_mem hlt)
      obtain ⟨T, hT⟩ : ∃ T, capTo tn sp run frm unt ls se k = T := ⟨_, rfl⟩
      have hts : T.size ≤ 7340104 := by rw [← hT]; exact HCS.out k hk
      have HST := Lib.hid (show capTo tn sp run frm unt ls se (k + 1) = (T ++ ⟨#[59]⟩) ++ s from by rw [capTo_add _ _ _ _ _ _ _ k hlt, hT, hge])
      rw [hT]
      have e2 : (⟨#[59]⟩ : ByteArray).size = 1 := rfl
      have m1 : ¬ 9223372036854775807 < 1 + s.size := by omega
      have m2 : ¬ 9223372036854775807 < T.size + (1 + s.size) := by omega
      have hkI : (k : Int) < ls.length := by omega
      have hk4 : (k : Int) ≤ 4 := by have := HN4.out; omega
      clear hc hse hge hT
      go_wp2
      exact ⟨⟨k + 1, by omega, by go_num, by rw [HST.out, ByteArray.append_assoc]⟩, by simp [intOf]; omega⟩
    · obtain rfl : k = ls.length := by omega
      go_wp2
      go_ret
      exact ⟨rfl, grown_trans HG.out HGA.out⟩

set_option maxRecDepth 100000 in
set_option maxHeartbeats 4000000 in
theorem iwrite_no (w : World) (hE : ErrC w) (hP : Pow w) (tn sp : ByteArray) (run frm unt : Int) (ao : Option Addr) (cp : Nat) (ls : List ByteArray) (se : ByteArray) (base : Nat) (hl : Lies w base ao ls) (hn : ls.length ≤ 1048576) (hz : ∀ l ∈ ls, l.size ≤ 1048576) (h1 : tn.size ≤ 1048576) (h2 : sp.size ≤ 1048576) (h3 : se.size ≤ 1048576) (hp : ¬ CapP tn sp run frm unt ls se) :
    Calls Tryz.prog 17 #[.agg #[.string tn, .string sp, .int .i64 run, .int .i64 frm, .int .i64 unt, .slice ao ls.length cp, .string se]] w fun e w' => e = .returned (.string ⟨#[]⟩) ∧ w.grownBy w' none := by
  obtain ⟨W, hW⟩ : ∃ W, w.alloc (Obj.cells #[Value.string tn, .string sp, .int .i64 run, .int .i64 frm, .int .i64 unt, .slice ao ls.length cp, .string se] 26) = W := ⟨_, rfl⟩
  have HG := Lib.hid (show w.grownBy W none from by rw [← hW]; exact grown_alloc (grown_refl _ _) _)
  have HOK := Lib.hid ((icap_any W tn sp run frm unt ao cp ls se base (hl.kept HG.out (fun q e => by cases e)) hn hz h1 h2 h3 (hE.grown HG.out) (hP.grown HG.out)).mono (R' := fun e w' => e = .returned (.bool false) ∧ W.grownBy w' none) (fun e w' q => ⟨q.1.is_no hp, q.2⟩))
  have HW := Lib.hid hW
  clear hW hl hz h1 h2 h3 hp hE hP
  go_enter Tryz.func17, Tryz.ntmps17
  go_wp2_with fail
  rw [HW.out]
  refine HOK.out.mono ?_
  rintro e w1 ⟨rfl, hg1⟩
  have HG1 := Lib.hid (grown_trans HG.out hg1)
  clear hg1 HOK
  go_wp2
  go_ret
  exact ⟨rfl, HG1.out⟩
end Go.Proofs.YtecekbhkombnnaaGreatDoor
