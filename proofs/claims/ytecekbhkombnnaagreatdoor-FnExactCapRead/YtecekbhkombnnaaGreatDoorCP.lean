/- What a credential is for, as a text, by both. -/
import Derived.Test.YtecekbhkombnnaaGreatDoorCO
import Derived.Test.YtecekbhkombnnaaGreatDoorJN
namespace Go.Proofs.YtecekbhkombnnaaGreatDoor
open Go.RowKit

/-- what a credential is for -/
def headC (tn sp : ByteArray) (run frm unt : Nat) : ByteArray := (((((((tn ++ ⟨#[32]⟩) ++ sp) ++ ⟨#[32]⟩) ++ decS run) ++ ⟨#[32]⟩) ++ decS frm) ++ ⟨#[32]⟩) ++ decS unt
theorem headC_join (tn sp : ByteArray) (run frm unt : Nat) : joinT [tn, sp, decS run, decS frm, decS unt] = headC tn sp run frm unt := by
  unfold joinT headC
  apply ByteArray.ext
  simp [Lib.join, ByteArray.data_append]
theorem headC_size (tn sp : ByteArray) (run frm unt : Nat) (h1 : run < 4611686018427387904) (h2 : frm < 4611686018427387904) (h3 : unt < 4611686018427387904) : (headC tn sp run frm unt).size ≤ tn.size + sp.size + 67 := by
  have a1 := decS_size run h1
  have a2 := decS_size frm h2
  have a3 := decS_size unt h3
  have e1 : (⟨#[32]⟩ : ByteArray).size = 1 := rfl
  unfold headC
  simp only [ByteArray.size_append, e1]
  omega

set_option maxRecDepth 100000 in
set_option maxHeartbeats 8000000 in
theorem ihead_any (w : World) (hP : Pow w) (tn sp : ByteArray) (run frm unt : Nat) (ao : Option Addr) (cp : Nat) (ls : List ByteArray) (se : ByteArray) (h1 : tn.size ≤ 1048576) (h2 : sp.size ≤ 1048576) (k1 : run ≤ 999999) (k2 : frm ≤ 999999) (k3 : unt ≤ 999999) : Calls Tryz.prog 42 #[.agg #[.string tn, .string sp, .int .i64 (run : Int), .int .i64 (frm : Int), .int .i64 (unt : Int), .slice ao ls.length cp, .string se]] w fun e w' => e = .returned (.string (headC tn sp run frm unt)) ∧ w.grownBy w' none := by
  obtain ⟨W, hW⟩ : ∃ W, w.alloc (Obj.cells #[Value.string tn, .string sp, .int .i64 (run : Int), .int .i64 (frm : Int), .int .i64 (unt : Int), .slice ao ls.length cp, .string se] 26) = W := ⟨_, rfl⟩
  obtain ⟨B, hB⟩ : ∃ x, w.heap.size = x := ⟨_, rfl⟩
  have HG := Lib.hid (show w.grownBy W none from by rw [← hW]; exact grown_alloc (grown_refl _ _) _)
  have HB := Lib.hid (show Blk W B 26 [.string tn, .string sp, .int .i64 (run : Int), .int .i64 (frm : Int), .int .i64 (unt : Int), .slice ao ls.length cp, .string se] from by rw [← hW, ← hB]; exact Blk.new w 26 _)
  have HPW := Lib.hid (fun (V : World) (hV : W.grownBy V none) => hP.grown (grown_trans HG.out hV))
  have HJH := Lib.hid (headC_join tn sp run frm unt)
  have z1 := decS_size run (by omega)
  have z2 := decS_size frm (by omega)
  have z3 := decS_size unt (by omega)
  obtain ⟨D1, hD1⟩ : ∃ K, decS run = K := ⟨_, rfl⟩
  obtain ⟨D2, hD2⟩ : ∃ K, decS frm = K := ⟨_, rfl⟩
  obtain ⟨D3, hD3⟩ : ∃ K, decS unt = K := ⟨_, rfl⟩
  have HC1 := Lib.hid (fun (V : World) (h : V.cell? ⟨B, 0, none⟩ = some (.string tn) ∧ V.cell? ⟨B, 1, none⟩ = some (.string sp) ∧ V.cell? ⟨B, 2, none⟩ = some (.int .i64 (run : Int)) ∧ V.cell? ⟨B, 3, none⟩ = some (.int .i64 (frm : Int)) ∧ V.cell? ⟨B, 4, none⟩ = some (.int .i64 (unt : Int)) ∧ W.grownBy V none) => (itoa_nat run (by omega) V (HPW.out V h.2.2.2.2.2)).mono (R' := fun e w' => e = .returned (.string D1) ∧ (w'.cell? ⟨B, 0, none⟩ = some (.string tn) ∧ w'.cell? ⟨B, 1, none⟩ = some (.string sp) ∧ w'.cell? ⟨B, 2, none⟩ = some (.int .i64 (run : Int)) ∧ w'.cell? ⟨B, 3, none⟩ = some (.int .i64 (frm : Int)) ∧ w'.cell? ⟨B, 4, none⟩ = some (.int .i64 (unt : Int)) ∧ W.grownBy w' none)) (fun e w' q => ⟨by rw [q.1, hD1], q.2.cell h.1 (by simp), q.2.cell h.2.1 (by simp), q.2.cell h.2.2.1 (by simp), q.2.cell h.2.2.2.1 (by simp), q.2.cell h.2.2.2.2.1 (by simp), grown_trans h.2.2.2.2.2 q.2⟩))
  have HC2 := Lib.hid (fun (V : World) (h : V.cell? ⟨B, 0, none⟩ = some (.string tn) ∧ V.cell? ⟨B, 1, none⟩ = some (.string sp) ∧ V.cell? ⟨B, 2, none⟩ = some (.int .i64 (run : Int)) ∧ V.cell? ⟨B, 3, none⟩ = some (.int .i64 (frm : Int)) ∧ V.cell? ⟨B, 4, none⟩ = some (.int .i64 (unt : Int)) ∧ W.grownBy V none) => (itoa_nat frm (by omega) V (HPW.out V h.2.2.2.2.2)).mono (R' := fun e w' => e = .returned (.string D2) ∧ (w'.cell? ⟨B, 0, none⟩ = some (.string tn) ∧ w'.cell? ⟨B, 1, none⟩ = some (.string sp) ∧ w'.cell? ⟨B, 2, none⟩ = some (.int .i64 (run : Int)) ∧ w'.cell? ⟨B, 3, none⟩ = some (.int .i64 (frm : Int)) ∧ w'.cell? ⟨B, 4, none⟩ = some (.int .i64 (unt : Int)) ∧ W.grownBy w' none)) (fun e w' q => ⟨by rw [q.1, hD2], q.2.cell h.1 (by simp), q.2.cell h.2.1 (by simp), q.2.cell h.2.2.1 (by simp), q.2.cell h.2.2.2.1 (by simp), q.2.cell h.2.2.2.2.1 (by simp), grown_trans h.2.2.2.2.2 q.2⟩))
  have HC3 := Lib.hid (fun (V : World) (h : V.cell? ⟨B, 0, none⟩ = some (.string tn) ∧ V.cell? ⟨B, 1, none⟩ = some (.string sp) ∧ V.cell? ⟨B, 2, none⟩ = some (.int .i64 (run : Int)) ∧ V.cell? ⟨B, 3, none⟩ = some (.int .i64 (frm : Int)) ∧ V.cell? ⟨B, 4, none⟩ = some (.int .i64 (unt : Int)) ∧ W.grownBy V none) => (itoa_nat unt (by omega) V (HPW.out V h.2.2.2.2.2)).mono (R' := fun e w' => e = .returned (.string D3) ∧ (w'.cell? ⟨B, 0, none⟩ = some (.string tn) ∧ w'.cell? ⟨B, 1, none⟩ = some (.string sp) ∧ w'.cell? ⟨B, 2, none⟩ = some (.int .i64 (run : Int)) ∧ w'.cell? ⟨B, 3, none⟩ = some (.int .i64 (frm : Int)) ∧ w'.cell? ⟨B, 4, none⟩ = some (.int .i64 (unt : Int)) ∧ W.grownBy w' none)) (fun e w' q => ⟨by rw [q.1, hD3], q.2.cell h.1 (by simp), q.2.cell h.2.1 (by simp), q.2.cell h.2.2.1 (by simp), q.2.cell h.2.2.2.1 (by simp), q.2.cell h.2.2.2.2.1 (by simp), grown_trans h.2.2.2.2.2 q.2⟩))
  rw [hD1, hD2, hD3] at HJH
  rw [hD1] at z1
  rw [hD2] at z2
  rw [hD3] at z3
  have HAL := Lib.hid (fun (V : World) (h : V.cell? ⟨B, 0, none⟩ = some (.string tn) ∧ V.cell? ⟨B, 1, none⟩ = some (.string sp) ∧ V.cell? ⟨B, 2, none⟩ = some (.int .i64 (run : Int)) ∧ V.cell? ⟨B, 3, none⟩ = some (.int .i64 (frm : Int)) ∧ V.cell? ⟨B, 4, none⟩ = some (.int .i64 (unt : Int)) ∧ W.grownBy V none) (o : Obj) => show ((V.alloc o).cell? ⟨B, 0, none⟩ = some (.string tn) ∧ (V.alloc o).cell? ⟨B, 1, none⟩ = some (.string sp) ∧ (V.alloc o).cell? ⟨B, 2, none⟩ = some (.int .i64 (run : Int)) ∧ (V.alloc o).cell? ⟨B, 3, none⟩ = some (.int .i64 (frm : Int)) ∧ (V.alloc o).cell? ⟨B, 4, none⟩ = some (.int .i64 (unt : Int)) ∧ W.grownBy (V.alloc o) none) from by
    have hg := World.grownBy_alloc V o none
    exact ⟨hg.cell h.1 (by simp), hg.cell h.2.1 (by simp), hg.cell h.2.2.1 (by simp), hg.cell h.2.2.2.1 (by simp), hg.cell h.2.2.2.2.1 (by simp), grown_trans h.2.2.2.2.2 hg⟩)
  have HJN := Lib.hid (fun (V : World) (h : V.cell? ⟨B, 0, none⟩ = some (.string tn) ∧ V.cell? ⟨B, 1, none⟩ = some (.string sp) ∧ V.cell? ⟨B, 2, none⟩ = some (.int .i64 (run : Int)) ∧ V.cell? ⟨B, 3, none⟩ = some (.int .i64 (frm : Int)) ∧ V.cell? ⟨B, 4, none⟩ = some (.int .i64 (unt : Int)) ∧ W.grownBy V none) => (join_row (V.alloc (Obj.cells #[Value.string tn, .string sp, .string D1, .string D2, .string D3] 9)) V.heap.size (.slice (some ⟨V.heap.size, 0, none⟩) 5 5) [tn, sp, D1, D2, D3] (Row.lit V 9 (strs [tn, sp, D1, D2, D3])) (by simp) (by simp) (by simp [Lib.join]; omega)).mono (R' := fun e w' => e = .returned (.string (headC tn sp run frm unt)) ∧ (w'.cell? ⟨B, 0, none⟩ = some (.string tn) ∧ w'.cell? ⟨B, 1, none⟩ = some (.string sp) ∧ w'.cell? ⟨B, 2, none⟩ = some (.int .i64 (run : Int)) ∧ w'.cell? ⟨B, 3, none⟩ = some (.int .i64 (frm : Int)) ∧ w'.cell? ⟨B, 4, none⟩ = some (.int .i64 (unt : Int)) ∧ W.grownBy w' none)) (fun e w' q => by
    have hg := grown_trans (World.grownBy_alloc V (Obj.cells #[Value.string tn, .string sp, .string D1, .string D2, .string D3] 9) none) q.2
    exact ⟨by rw [q.1, HJH.out], hg.cell h.1 (by simp), hg.cell h.2.1 (by simp), hg.cell h.2.2.1 (by simp), hg.cell h.2.2.2.1 (by simp), hg.cell h.2.2.2.2.1 (by simp), grown_trans h.2.2.2.2.2 hg⟩))
  have HSD := Lib.hid (show W.drew.cell? ⟨B, 0, none⟩ = some (.string tn) ∧ W.drew.cell? ⟨B, 1, none⟩ = some (.string sp) ∧ W.drew.cell? ⟨B, 2, none⟩ = some (.int .i64 (run : Int)) ∧ W.drew.cell? ⟨B, 3, none⟩ = some (.int .i64 (frm : Int)) ∧ W.drew.cell? ⟨B, 4, none⟩ = some (.int .i64 (unt : Int)) ∧ W.grownBy W.drew none from ⟨HB.out.drew.cell rfl, HB.out.drew.cell rfl, HB.out.drew.cell rfl, HB.out.drew.cell rfl, HB.out.drew.cell rfl, grown_drew (grown_refl _ _)⟩)
  have HW := Lib.hid hW
  have HBE := Lib.hid hB
  clear hW hB hP h1 h2 hD1 hD2 hD3 z1 z2 z3 k1 k2 k3 HJH
  generalize headC tn sp run frm unt = R at HJN ⊢
  go_enter Tryz.func42, Tryz.ntmps42
  go_wp2
  rw [HW.out, HBE.out]
  go_region_held3 (fun V => V.cell? ⟨B, 0, none⟩ = some (.string tn) ∧ V.cell? ⟨B, 1, none⟩ = some (.string sp) ∧ V.cell? ⟨B, 2, none⟩ = some (.int .i64 (run : Int)) ∧ V.cell? ⟨B, 3, none⟩ = some (.int .i64 (frm : Int)) ∧ V.cell? ⟨B, 4, none⟩ = some (.int .i64 (unt : Int)) ∧ W.grownBy V none) (first | assumption | (with_reducible exact HSD.out) | (with_reducible exact HAL.out _ (by assumption) _))
    (first
      | (go_at_call 71; (first | (with_reducible refine (HC1.out _ (by assumption)).mono ?_) | (with_reducible refine (HC2.out _ (by assumption)).mono ?_) | (with_reducible refine (HC3.out _ (by assumption)).mono ?_)); rintro e wa ⟨rfl, hSa⟩)
      | (go_at_call 70; refine (HJN.out _ (by assumption)).mono ?_; rintro e wb ⟨rfl, hSb⟩; have HSB := Lib.hid hSb))
  all_goals
    go_wp2
    go_ret
    exact ⟨rfl, grown_trans HG.out HSB.out.2.2.2.2.2⟩

set_option maxRecDepth 100000 in
set_option maxHeartbeats 8000000 in
theorem shead_base (w : World) (tn sp : ByteArray) (run frm unt : Nat) (ao : Option Addr) (cp : Nat) (ls : List ByteArray) (se : ByteArray) (h1 : tn.size ≤ 1048576) (h2 : sp.size ≤ 1048576) (k1 : run ≤ 999999) (k2 : frm ≤ 999999) (k3 : unt ≤ 999999) : Calls Tryz.prog 41 #[.agg #[.string tn, .string sp, .int .i64 (run : Int), .int .i64 (frm : Int), .int .i64 (unt : Int), .slice ao ls.length cp, .string se]] w fun e w' => e = .returned (.string (headC tn sp run frm unt)) ∧ w.grownBy w' none := by
  obtain ⟨W, hW⟩ : ∃ W, w.alloc (Obj.cells #[Value.string tn, .string sp, .int .i64 (run : Int), .int .i64 (frm : Int), .int .i64 (unt : Int), .slice ao ls.length cp, .string se] 26) = W := ⟨_, rfl⟩
  obtain ⟨B, hB⟩ : ∃ x, w.heap.size = x := ⟨_, rfl⟩
  have HG := Lib.hid (show w.grownBy W none from by rw [← hW]; exact grown_alloc (grown_refl _ _) _)
  have HB := Lib.hid (show Blk W B 26 [.string tn, .string sp, .int .i64 (run : Int), .int .i64 (frm : Int), .int .i64 (unt : Int), .slice ao ls.length cp, .string se] from by rw [← hW, ← hB]; exact Blk.new w 26 _)
  have z1 := decS_size run (by omega)
  have z2 := decS_size frm (by omega)
  have z3 := decS_size unt (by omega)
  have HHD := Lib.hid (show headC tn sp run frm unt = (((((((tn ++ ⟨#[32]⟩) ++ sp) ++ ⟨#[32]⟩) ++ decS run) ++ ⟨#[32]⟩) ++ decS frm) ++ ⟨#[32]⟩) ++ decS unt from rfl)
  obtain ⟨D1, hD1⟩ : ∃ K, decS run = K := ⟨_, rfl⟩
  obtain ⟨D2, hD2⟩ : ∃ K, decS frm = K := ⟨_, rfl⟩
  obtain ⟨D3, hD3⟩ : ∃ K, decS unt = K := ⟨_, rfl⟩
  have HC1 := Lib.hid (fun (V : World) (h : V.cell? ⟨B, 0, none⟩ = some (.string tn) ∧ V.cell? ⟨B, 1, none⟩ = some (.string sp) ∧ V.cell? ⟨B, 2, none⟩ = some (.int .i64 (run : Int)) ∧ V.cell? ⟨B, 3, none⟩ = some (.int .i64 (frm : Int)) ∧ V.cell? ⟨B, 4, none⟩ = some (.int .i64 (unt : Int)) ∧ W.grownBy V none) => (dec_walk run V (by omega)).mono (R' := fun e w' => e = .returned (.string D1) ∧ (w'.cell? ⟨B, 0, none⟩ = some (.string tn) ∧ w'.cell? ⟨B, 1, none⟩ = some (.string sp) ∧ w'.cell? ⟨B, 2, none⟩ = some (.int .i64 (run : Int)) ∧ w'.cell? ⟨B, 3, none⟩ = some (.int .i64 (frm : Int)) ∧ w'.cell? ⟨B, 4, none⟩ = some (.int .i64 (unt : Int)) ∧ W.grownBy w' none)) (fun e w' q => ⟨by rw [q.1, hD1], q.2.cell h.1 (by simp), q.2.cell h.2.1 (by simp), q.2.cell h.2.2.1 (by simp), q.2.cell h.2.2.2.1 (by simp), q.2.cell h.2.2.2.2.1 (by simp), grown_trans h.2.2.2.2.2 q.2⟩))
  have HC2 := Lib.hid (fun (V : World) (h : V.cell? ⟨B, 0, none⟩ = some (.string tn) ∧ V.cell? ⟨B, 1, none⟩ = some (.string sp) ∧ V.cell? ⟨B, 2, none⟩ = some (.int .i64 (run : Int)) ∧ V.cell? ⟨B, 3, none⟩ = some (.int .i64 (frm : Int)) ∧ V.cell? ⟨B, 4, none⟩ = some (.int .i64 (unt : Int)) ∧ W.grownBy V none) => (dec_walk frm V (by omega)).mono (R' := fun e w' => e = .returned (.string D2) ∧ (w'.cell? ⟨B, 0, none⟩ = some (.string tn) ∧ w'.cell? ⟨B, 1, none⟩ = some (.string sp) ∧ w'.cell? ⟨B, 2, none⟩ = some (.int .i64 (run : Int)) ∧ w'.cell? ⟨B, 3, none⟩ = some (.int .i64 (frm : Int)) ∧ w'.cell? ⟨B, 4, none⟩ = some (.int .i64 (unt : Int)) ∧ W.grownBy w' none)) (fun e w' q => ⟨by rw [q.1, hD2], q.2.cell h.1 (by simp), q.2.cell h.2.1 (by simp), q.2.cell h.2.2.1 (by simp), q.2.cell h.2.2.2.1 (by simp), q.2.cell h.2.2.2.2.1 (by simp), grown_trans h.2.2.2.2.2 q.2⟩))
  have HC3 := Lib.hid (fun (V : World) (h : V.cell? ⟨B, 0, none⟩ = some (.string tn) ∧ V.cell? ⟨B, 1, none⟩ = some (.string sp) ∧ V.cell? ⟨B, 2, none⟩ = some (.int .i64 (run : Int)) ∧ V.cell? ⟨B, 3, none⟩ = some (.int .i64 (frm : Int)) ∧ V.cell? ⟨B, 4, none⟩ = some (.int .i64 (unt : Int)) ∧ W.grownBy V none) => (dec_walk unt V (by omega)).mono (R' := fun e w' => e = .returned (.string D3) ∧ (w'.cell? ⟨B, 0, none⟩ = some (.string tn) ∧ w'.cell? ⟨B, 1, none⟩ = some (.string sp) ∧ w'.cell? ⟨B, 2, none⟩ = some (.int .i64 (run : Int)) ∧ w'.cell? ⟨B, 3, none⟩ = some (.int .i64 (frm : Int)) ∧ w'.cell? ⟨B, 4, none⟩ = some (.int .i64 (unt : Int)) ∧ W.grownBy w' none)) (fun e w' q => ⟨by rw [q.1, hD3], q.2.cell h.1 (by simp), q.2.cell h.2.1 (by simp), q.2.cell h.2.2.1 (by simp), q.2.cell h.2.2.2.1 (by simp), q.2.cell h.2.2.2.2.1 (by simp), grown_trans h.2.2.2.2.2 q.2⟩))
  rw [hD1, hD2, hD3] at HHD
  rw [hD1] at z1
  rw [hD2] at z2
  rw [hD3] at z3
  have e1 : (⟨#[32]⟩ : ByteArray).size = 1 := rfl
  obtain ⟨C1, hC1⟩ : ∃ C, tn ++ ⟨#[32]⟩ = C := ⟨_, rfl⟩
  have l1 : ¬ 9223372036854775807 < tn.size + 1 := by omega
  have y1 : C1.size ≤ 1048577 := by rw [← hC1, ByteArray.size_append, e1]; omega
  obtain ⟨C2, hC2⟩ : ∃ C, C1 ++ sp = C := ⟨_, rfl⟩
  have l2 : ¬ 9223372036854775807 < C1.size + sp.size := by omega
  have y2 : C2.size ≤ 2097153 := by rw [← hC2, ByteArray.size_append]; omega
  obtain ⟨C3, hC3⟩ : ∃ C, C2 ++ ⟨#[32]⟩ = C := ⟨_, rfl⟩
  have l3 : ¬ 9223372036854775807 < C2.size + 1 := by omega
  have y3 : C3.size ≤ 2097154 := by rw [← hC3, ByteArray.size_append, e1]; omega
  obtain ⟨C4, hC4⟩ : ∃ C, C3 ++ D1 = C := ⟨_, rfl⟩
  have l4 : ¬ 9223372036854775807 < C3.size + D1.size := by omega
  have y4 : C4.size ≤ 2097175 := by rw [← hC4, ByteArray.size_append]; omega
  obtain ⟨C5, hC5⟩ : ∃ C, C4 ++ ⟨#[32]⟩ = C := ⟨_, rfl⟩
  have l5 : ¬ 9223372036854775807 < C4.size + 1 := by omega
  have y5 : C5.size ≤ 2097176 := by rw [← hC5, ByteArray.size_append, e1]; omega
  obtain ⟨C6, hC6⟩ : ∃ C, C5 ++ D2 = C := ⟨_, rfl⟩
  have l6 : ¬ 9223372036854775807 < C5.size + D2.size := by omega
  have y6 : C6.size ≤ 2097197 := by rw [← hC6, ByteArray.size_append]; omega
  obtain ⟨C7, hC7⟩ : ∃ C, C6 ++ ⟨#[32]⟩ = C := ⟨_, rfl⟩
  have l7 : ¬ 9223372036854775807 < C6.size + 1 := by omega
  have y7 : C7.size ≤ 2097198 := by rw [← hC7, ByteArray.size_append, e1]; omega
  obtain ⟨C8, hC8⟩ : ∃ C, C7 ++ D3 = C := ⟨_, rfl⟩
  have l8 : ¬ 9223372036854775807 < C7.size + D3.size := by omega
  rw [hC1, hC2, hC3, hC4, hC5, hC6, hC7, hC8] at HHD
  have HSD := Lib.hid (show W.drew.cell? ⟨B, 0, none⟩ = some (.string tn) ∧ W.drew.cell? ⟨B, 1, none⟩ = some (.string sp) ∧ W.drew.cell? ⟨B, 2, none⟩ = some (.int .i64 (run : Int)) ∧ W.drew.cell? ⟨B, 3, none⟩ = some (.int .i64 (frm : Int)) ∧ W.drew.cell? ⟨B, 4, none⟩ = some (.int .i64 (unt : Int)) ∧ W.grownBy W.drew none from ⟨HB.out.drew.cell rfl, HB.out.drew.cell rfl, HB.out.drew.cell rfl, HB.out.drew.cell rfl, HB.out.drew.cell rfl, grown_drew (grown_refl _ _)⟩)
  have HW := Lib.hid hW
  have HBE := Lib.hid hB
  clear hW hB h1 h2 hD1 hD2 hD3 z1 z2 z3 k1 k2 k3 y1 y2 y3 y4 y5 y6 y7
  go_enter Tryz.func41, Tryz.ntmps41
  go_wp2
  rw [HW.out, HBE.out]
  go_region_held3 (fun V => V.cell? ⟨B, 0, none⟩ = some (.string tn) ∧ V.cell? ⟨B, 1, none⟩ = some (.string sp) ∧ V.cell? ⟨B, 2, none⟩ = some (.int .i64 (run : Int)) ∧ V.cell? ⟨B, 3, none⟩ = some (.int .i64 (frm : Int)) ∧ V.cell? ⟨B, 4, none⟩ = some (.int .i64 (unt : Int)) ∧ W.grownBy V none) (first | assumption | (with_reducible exact HSD.out))
    (first
      | (go_at_call 69; (first | (with_reducible refine (HC1.out _ (by assumption)).mono ?_) | (with_reducible refine (HC2.out _ (by assumption)).mono ?_) | (with_reducible refine (HC3.out _ (by assumption)).mono ?_)); rintro e wa ⟨rfl, hSa⟩; have HSB := Lib.hid hSa))
  all_goals
    go_wp2
    go_ret
    exact ⟨by rw [HHD.out]; rfl, grown_trans HG.out HSB.out.2.2.2.2.2⟩
end Go.Proofs.YtecekbhkombnnaaGreatDoor
