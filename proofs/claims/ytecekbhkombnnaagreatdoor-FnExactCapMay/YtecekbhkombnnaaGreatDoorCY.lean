/- What a credential lets, by the program. -/
import Derived.Test.YtecekbhkombnnaaGreatDoorCX
namespace Go.Proofs.YtecekbhkombnnaaGreatDoor
open Go.RowKit

theorem pj_all (frm unt : Int) (ls : List ByteArray) (id : ByteArray) (now : Int) (n : Nat) (hn : n = ls.length + 1) : (∀ j, j < n → PJ frm unt ls id now j) ↔ InR frm now unt ∧ ∀ l ∈ ls, LetP l id now := by
  subst hn
  constructor
  · intro h
    refine ⟨h 0 (by omega), fun l hl => ?_⟩
    obtain ⟨j, hj, rfl⟩ := List.mem_iff_getElem.1 hl
    have h2 : LetP (ls.getD j ByteArray.empty) id now := h (j + 1) (by omega)
    have e : ls.getD j ByteArray.empty = ls[j] := by simp [hj]
    rw [e] at h2
    exact h2
  · rintro ⟨h1, h2⟩ j hj
    cases j with
    | zero => exact h1
    | succ k =>
      have e : ls.getD k ByteArray.empty = ls[k] := by simp [show k < ls.length by omega]
      show LetP (ls.getD k ByteArray.empty) id now
      rw [e]
      exact h2 _ (List.getElem_mem (by omega))

set_option maxRecDepth 100000 in
set_option maxHeartbeats 16000000 in
theorem imay_0 (w : World) (hT : Tabs w) (hE : ErrC w) (hP : Pow w) (key tn sp : ByteArray) (run frm unt : Int) (ao : Option Addr) (cp : Nat) (ls : List ByteArray) (se tenant space : ByteArray) (rn : Int) (id : ByteArray) (now : Int) (base : Nat) (hl : Lies w base ao ls) (hn : ls.length ≤ 1048576) (hz : ∀ l ∈ ls, l.size ≤ 1048576) (h1 : tn.size ≤ 1048576) (h2 : sp.size ≤ 1048576) (h3 : se.size ≤ 1048576) (hk : key.size ≤ 1048576) (hi : id.size ≤ 1048576) (q0 : ¬ (CapP tn sp run frm unt ls se)) :
    Calls Tryz.prog 15 #[.string key, .agg #[.string tn, .string sp, .int .i64 run, .int .i64 frm, .int .i64 unt, .slice ao ls.length cp, .string se], .string tenant, .string space, .int .i64 rn, .string id, .int .i64 now] w fun e w' => e = .returned (.bool false) ∧ w.grownBy w' none := by
  obtain ⟨W, hW⟩ : ∃ W, w.alloc (Obj.cells #[Value.string tn, .string sp, .int .i64 run, .int .i64 frm, .int .i64 unt, .slice ao ls.length cp, .string se] 26) = W := ⟨_, rfl⟩
  obtain ⟨B, hB⟩ : ∃ x, w.heap.size = x := ⟨_, rfl⟩
  have HG := Lib.hid (show w.grownBy W none from by rw [← hW]; exact grown_alloc (grown_refl _ _) _)
  have HB := Lib.hid (show Blk W B 26 [.string tn, .string sp, .int .i64 run, .int .i64 frm, .int .i64 unt, .slice ao ls.length cp, .string se] from by rw [← hW, ← hB]; exact Blk.new w 26 _)
  have HALL := Lib.hid (fun (V : World) (hV : W.grownBy V none) => show W.grownBy V none ∧ V.cell? ⟨B, 0, none⟩ = some (.string tn) ∧ V.cell? ⟨B, 1, none⟩ = some (.string sp) ∧ V.cell? ⟨B, 2, none⟩ = some (.int .i64 run) ∧ V.cell? ⟨B, 3, none⟩ = some (.int .i64 frm) ∧ V.cell? ⟨B, 4, none⟩ = some (.int .i64 unt) ∧ V.cell? ⟨B, 5, none⟩ = some (.slice ao ls.length cp) ∧ V.cell? ⟨B, 6, none⟩ = some (.string se) from ⟨hV, hV.cell (HB.out.cell rfl) (by simp), hV.cell (HB.out.cell rfl) (by simp), hV.cell (HB.out.cell rfl) (by simp), hV.cell (HB.out.cell rfl) (by simp), hV.cell (HB.out.cell rfl) (by simp), hV.cell (HB.out.cell rfl) (by simp), hV.cell (HB.out.cell rfl) (by simp)⟩)
  have HOK := Lib.hid ((icap_any W tn sp run frm unt ao cp ls se base (hl.kept HG.out (fun q e => by cases e)) hn hz h1 h2 h3 (hE.grown HG.out) (hP.grown HG.out)).mono (R' := fun e w' => e = .returned (.bool false) ∧ W.grownBy w' none) (fun e w' q => ⟨q.1.is_no q0, q.2⟩))
  have _hu := And.intro hk (And.intro hi hT)
  clear _hu
  have HW := Lib.hid hW
  have HBE := Lib.hid hB
  clear hW hB hl hz h1 h2 h3 hk hi hn hT hE hP q0
  go_enter Tryz.func15, Tryz.ntmps15
  go_wp2_with fail
  rw [HW.out, HBE.out]
  refine HOK.out.mono ?_
  rintro e w1 ⟨rfl, hg1⟩
  have HG1 := Lib.hid hg1
  obtain ⟨-, c0, c1, c2, c3, c4, c5, c6⟩ := HALL.out w1 hg1
  clear hg1 HOK
  go_wp2
  go_ret
  exact ⟨rfl, grown_trans HG.out HG1.out⟩

set_option maxRecDepth 100000 in
set_option maxHeartbeats 16000000 in
theorem imay_2 (w : World) (hT : Tabs w) (hE : ErrC w) (hP : Pow w) (key tn sp : ByteArray) (run frm unt : Int) (ao : Option Addr) (cp : Nat) (ls : List ByteArray) (se tenant space : ByteArray) (rn : Int) (id : ByteArray) (now : Int) (base : Nat) (hl : Lies w base ao ls) (hn : ls.length ≤ 1048576) (hz : ∀ l ∈ ls, l.size ≤ 1048576) (h1 : tn.size ≤ 1048576) (h2 : sp.size ≤ 1048576) (h3 : se.size ≤ 1048576) (hk : key.size ≤ 1048576) (hi : id.size ≤ 1048576) (q0 : (CapP tn sp run frm unt ls se)) (q2 : ¬ (tn = tenant)) :
    Calls Tryz.prog 15 #[.string key, .agg #[.string tn, .string sp, .int .i64 run, .int .i64 frm, .int .i64 unt, .slice ao ls.length cp, .string se], .string tenant, .string space, .int .i64 rn, .string id, .int .i64 now] w fun e w' => e = .returned (.bool false) ∧ w.grownBy w' none := by
  obtain ⟨W, hW⟩ : ∃ W, w.alloc (Obj.cells #[Value.string tn, .string sp, .int .i64 run, .int .i64 frm, .int .i64 unt, .slice ao ls.length cp, .string se] 26) = W := ⟨_, rfl⟩
  obtain ⟨B, hB⟩ : ∃ x, w.heap.size = x := ⟨_, rfl⟩
  have HG := Lib.hid (show w.grownBy W none from by rw [← hW]; exact grown_alloc (grown_refl _ _) _)
  have HB := Lib.hid (show Blk W B 26 [.string tn, .string sp, .int .i64 run, .int .i64 frm, .int .i64 unt, .slice ao ls.length cp, .string se] from by rw [← hW, ← hB]; exact Blk.new w 26 _)
  have HALL := Lib.hid (fun (V : World) (hV : W.grownBy V none) => show W.grownBy V none ∧ V.cell? ⟨B, 0, none⟩ = some (.string tn) ∧ V.cell? ⟨B, 1, none⟩ = some (.string sp) ∧ V.cell? ⟨B, 2, none⟩ = some (.int .i64 run) ∧ V.cell? ⟨B, 3, none⟩ = some (.int .i64 frm) ∧ V.cell? ⟨B, 4, none⟩ = some (.int .i64 unt) ∧ V.cell? ⟨B, 5, none⟩ = some (.slice ao ls.length cp) ∧ V.cell? ⟨B, 6, none⟩ = some (.string se) from ⟨hV, hV.cell (HB.out.cell rfl) (by simp), hV.cell (HB.out.cell rfl) (by simp), hV.cell (HB.out.cell rfl) (by simp), hV.cell (HB.out.cell rfl) (by simp), hV.cell (HB.out.cell rfl) (by simp), hV.cell (HB.out.cell rfl) (by simp), hV.cell (HB.out.cell rfl) (by simp)⟩)
  have HOK := Lib.hid ((icap_any W tn sp run frm unt ao cp ls se base (hl.kept HG.out (fun q e => by cases e)) hn hz h1 h2 h3 (hE.grown HG.out) (hP.grown HG.out)).mono (R' := fun e w' => e = .returned (.bool true) ∧ W.grownBy w' none) (fun e w' q => ⟨q.1.is_yes q0, q.2⟩))
  have b2 : (tn.toList == tenant.toList) = false := by rw [beq_eq_false_iff_ne]; exact fun h => q2 (toL_iff.2 h)
  have _hu := And.intro hk (And.intro hi hT)
  clear _hu
  have HW := Lib.hid hW
  have HBE := Lib.hid hB
  clear hW hB hl hz h1 h2 h3 hk hi hn hT hE hP q0 q2
  go_enter Tryz.func15, Tryz.ntmps15
  go_wp2_with fail
  rw [HW.out, HBE.out]
  refine HOK.out.mono ?_
  rintro e w1 ⟨rfl, hg1⟩
  have HG1 := Lib.hid hg1
  obtain ⟨-, c0, c1, c2, c3, c4, c5, c6⟩ := HALL.out w1 hg1
  clear hg1 HOK
  go_wp2
  go_ret
  exact ⟨rfl, grown_trans HG.out HG1.out⟩

set_option maxRecDepth 100000 in
set_option maxHeartbeats 16000000 in
theorem imay_3 (w : World) (hT : Tabs w) (hE : ErrC w) (hP : Pow w) (key tn sp : ByteArray) (run frm unt : Int) (ao : Option Addr) (cp : Nat) (ls : List ByteArray) (se tenant space : ByteArray) (rn : Int) (id : ByteArray) (now : Int) (base : Nat) (hl : Lies w base ao ls) (hn : ls.length ≤ 1048576) (hz : ∀ l ∈ ls, l.size ≤ 1048576) (h1 : tn.size ≤ 1048576) (h2 : sp.size ≤ 1048576) (h3 : se.size ≤ 1048576) (hk : key.size ≤ 1048576) (hi : id.size ≤ 1048576) (q0 : (CapP tn sp run frm unt ls se)) (q2 : (tn = tenant)) (q3 : ¬ (sp = space)) :
    Calls Tryz.prog 15 #[.string key, .agg #[.string tn, .string sp, .int .i64 run, .int .i64 frm, .int .i64 unt, .slice ao ls.length cp, .string se], .string tenant, .string space, .int .i64 rn, .string id, .int .i64 now] w fun e w' => e = .returned (.bool false) ∧ w.grownBy w' none := by
  obtain ⟨W, hW⟩ : ∃ W, w.alloc (Obj.cells #[Value.string tn, .string sp, .int .i64 run, .int .i64 frm, .int .i64 unt, .slice ao ls.length cp, .string se] 26) = W := ⟨_, rfl⟩
  obtain ⟨B, hB⟩ : ∃ x, w.heap.size = x := ⟨_, rfl⟩
  have HG := Lib.hid (show w.grownBy W none from by rw [← hW]; exact grown_alloc (grown_refl _ _) _)
  have HB := Lib.hid (show Blk W B 26 [.string tn, .string sp, .int .i64 run, .int .i64 frm, .int .i64 unt, .slice ao ls.length cp, .string se] from by rw [← hW, ← hB]; exact Blk.new w 26 _)
  have HALL := Lib.hid (fun (V : World) (hV : W.grownBy V none) => show W.grownBy V none ∧ V.cell? ⟨B, 0, none⟩ = some (.string tn) ∧ V.cell? ⟨B, 1, none⟩ = some (.string sp) ∧ V.cell? ⟨B, 2, none⟩ = some (.int .i64 run) ∧ V.cell? ⟨B, 3, none⟩ = some (.int .i64 frm) ∧ V.cell? ⟨B, 4, none⟩ = some (.int .i64 unt) ∧ V.cell? ⟨B, 5, none⟩ = some (.slice ao ls.length cp) ∧ V.cell? ⟨B, 6, none⟩ = some (.string se) from ⟨hV, hV.cell (HB.out.cell rfl) (by simp), hV.cell (HB.out.cell rfl) (by simp), hV.cell (HB.out.cell rfl) (by simp), hV.cell (HB.out.cell rfl) (by simp), hV.cell (HB.out.cell rfl) (by simp), hV.cell (HB.out.cell rfl) (by simp), hV.cell (HB.out.cell rfl) (by simp)⟩)
  have HOK := Lib.hid ((icap_any W tn sp run frm unt ao cp ls se base (hl.kept HG.out (fun q e => by cases e)) hn hz h1 h2 h3 (hE.grown HG.out) (hP.grown HG.out)).mono (R' := fun e w' => e = .returned (.bool true) ∧ W.grownBy w' none) (fun e w' q => ⟨q.1.is_yes q0, q.2⟩))
  have b2 : (tn.toList == tenant.toList) = true := by rw [beq_iff_eq]; exact toL_iff.1 q2
  have b3 : (sp.toList == space.toList) = false := by rw [beq_eq_false_iff_ne]; exact fun h => q3 (toL_iff.2 h)
  have _hu := And.intro hk (And.intro hi hT)
  clear _hu
  have HW := Lib.hid hW
  have HBE := Lib.hid hB
  clear hW hB hl hz h1 h2 h3 hk hi hn hT hE hP q0 q2 q3
  go_enter Tryz.func15, Tryz.ntmps15
  go_wp2_with fail
  rw [HW.out, HBE.out]
  refine HOK.out.mono ?_
  rintro e w1 ⟨rfl, hg1⟩
  have HG1 := Lib.hid hg1
  obtain ⟨-, c0, c1, c2, c3, c4, c5, c6⟩ := HALL.out w1 hg1
  clear hg1 HOK
  go_wp2
  go_ret
  exact ⟨rfl, grown_trans HG.out HG1.out⟩

set_option maxRecDepth 100000 in
set_option maxHeartbeats 16000000 in
theorem imay_4 (w : World) (hT : Tabs w) (hE : ErrC w) (hP : Pow w) (key tn sp : ByteArray) (run frm unt : Int) (ao : Option Addr) (cp : Nat) (ls : List ByteArray) (se tenant space : ByteArray) (rn : Int) (id : ByteArray) (now : Int) (base : Nat) (hl : Lies w base ao ls) (hn : ls.length ≤ 1048576) (hz : ∀ l ∈ ls, l.size ≤ 1048576) (h1 : tn.size ≤ 1048576) (h2 : sp.size ≤ 1048576) (h3 : se.size ≤ 1048576) (hk : key.size ≤ 1048576) (hi : id.size ≤ 1048576) (q0 : (CapP tn sp run frm unt ls se)) (q2 : (tn = tenant)) (q3 : (sp = space)) (q4 : ¬ (run = rn)) :
    Calls Tryz.prog 15 #[.string key, .agg #[.string tn, .string sp, .int .i64 run, .int .i64 frm, .int .i64 unt, .slice ao ls.length cp, .string se], .string tenant, .string space, .int .i64 rn, .string id, .int .i64 now] w fun e w' => e = .returned (.bool false) ∧ w.grownBy w' none := by
  obtain ⟨W, hW⟩ : ∃ W, w.alloc (Obj.cells #[Value.string tn, .string sp, .int .i64 run, .int .i64 frm, .int .i64 unt, .slice ao ls.length cp, .string se] 26) = W := ⟨_, rfl⟩
  obtain ⟨B, hB⟩ : ∃ x, w.heap.size = x := ⟨_, rfl⟩
  have HG := Lib.hid (show w.grownBy W none from by rw [← hW]; exact grown_alloc (grown_refl _ _) _)
  have HB := Lib.hid (show Blk W B 26 [.string tn, .string sp, .int .i64 run, .int .i64 frm, .int .i64 unt, .slice ao ls.length cp, .string se] from by rw [← hW, ← hB]; exact Blk.new w 26 _)
  have HALL := Lib.hid (fun (V : World) (hV : W.grownBy V none) => show W.grownBy V none ∧ V.cell? ⟨B, 0, none⟩ = some (.string tn) ∧ V.cell? ⟨B, 1, none⟩ = some (.string sp) ∧ V.cell? ⟨B, 2, none⟩ = some (.int .i64 run) ∧ V.cell? ⟨B, 3, none⟩ = some (.int .i64 frm) ∧ V.cell? ⟨B, 4, none⟩ = some (.int .i64 unt) ∧ V.cell? ⟨B, 5, none⟩ = some (.slice ao ls.length cp) ∧ V.cell? ⟨B, 6, none⟩ = some (.string se) from ⟨hV, hV.cell (HB.out.cell rfl) (by simp), hV.cell (HB.out.cell rfl) (by simp), hV.cell (HB.out.cell rfl) (by simp), hV.cell (HB.out.cell rfl) (by simp), hV.cell (HB.out.cell rfl) (by simp), hV.cell (HB.out.cell rfl) (by simp), hV.cell (HB.out.cell rfl) (by simp)⟩)
  have HOK := Lib.hid ((icap_any W tn sp run frm unt ao cp ls se base (hl.kept HG.out (fun q e => by cases e)) hn hz h1 h2 h3 (hE.grown HG.out) (hP.grown HG.out)).mono (R' := fun e w' => e = .returned (.bool true) ∧ W.grownBy w' none) (fun e w' q => ⟨q.1.is_yes q0, q.2⟩))
  have b2 : (tn.toList == tenant.toList) = true := by rw [beq_iff_eq]; exact toL_iff.1 q2
  have b3 : (sp.toList == space.toList) = true := by rw [beq_iff_eq]; exact toL_iff.1 q3
  have b4 : (run == rn) = false := by rw [beq_eq_false_iff_ne]; exact q4
  have b5 : decide (run = rn) = false := decide_eq_false q4
  have b6 : ¬ run = rn := q4
  have _hu := And.intro hk (And.intro hi hT)
  clear _hu
  have HW := Lib.hid hW
  have HBE := Lib.hid hB
  clear hW hB hl hz h1 h2 h3 hk hi hn hT hE hP q0 q2 q3 q4
  go_enter Tryz.func15, Tryz.ntmps15
  go_wp2_with fail
  rw [HW.out, HBE.out]
  refine HOK.out.mono ?_
  rintro e w1 ⟨rfl, hg1⟩
  have HG1 := Lib.hid hg1
  obtain ⟨-, c0, c1, c2, c3, c4, c5, c6⟩ := HALL.out w1 hg1
  clear hg1 HOK
  go_wp2
  go_ret
  exact ⟨rfl, grown_trans HG.out HG1.out⟩

set_option maxRecDepth 100000 in
set_option maxHeartbeats 16000000 in
theorem imay_6 (w : World) (hT : Tabs w) (hE : ErrC w) (hP : Pow w) (key tn sp : ByteArray) (run frm unt : Int) (ao : Option Addr) (cp : Nat) (ls : List ByteArray) (se tenant space : ByteArray) (rn : Int) (id : ByteArray) (now : Int) (base : Nat) (hl : Lies w base ao ls) (hn : ls.length ≤ 1048576) (hz : ∀ l ∈ ls, l.size ≤ 1048576) (h1 : tn.size ≤ 1048576) (h2 : sp.size ≤ 1048576) (h3 : se.size ≤ 1048576) (hk : key.size ≤ 1048576) (hi : id.size ≤ 1048576) (q0 : (CapP tn sp run frm unt ls se)) (q2 : (tn = tenant)) (q3 : (sp = space)) (q4 : (run = rn)) (q6 : ¬ (IdP id)) :
    Calls Tryz.prog 15 #[.string key, .agg #[.string tn, .string sp, .int .i64 run, .int .i64 frm, .int .i64 unt, .slice ao ls.length cp, .string se], .string tenant, .string space, .int .i64 rn, .string id, .int .i64 now] w fun e w' => e = .returned (.bool false) ∧ w.grownBy w' none := by
  obtain rfl : run = rn := q4
  obtain ⟨W, hW⟩ : ∃ W, w.alloc (Obj.cells #[Value.string tn, .string sp, .int .i64 run, .int .i64 frm, .int .i64 unt, .slice ao ls.length cp, .string se] 26) = W := ⟨_, rfl⟩
  obtain ⟨B, hB⟩ : ∃ x, w.heap.size = x := ⟨_, rfl⟩
  have HG := Lib.hid (show w.grownBy W none from by rw [← hW]; exact grown_alloc (grown_refl _ _) _)
  have HB := Lib.hid (show Blk W B 26 [.string tn, .string sp, .int .i64 run, .int .i64 frm, .int .i64 unt, .slice ao ls.length cp, .string se] from by rw [← hW, ← hB]; exact Blk.new w 26 _)
  have HALL := Lib.hid (fun (V : World) (hV : W.grownBy V none) => show W.grownBy V none ∧ V.cell? ⟨B, 0, none⟩ = some (.string tn) ∧ V.cell? ⟨B, 1, none⟩ = some (.string sp) ∧ V.cell? ⟨B, 2, none⟩ = some (.int .i64 run) ∧ V.cell? ⟨B, 3, none⟩ = some (.int .i64 frm) ∧ V.cell? ⟨B, 4, none⟩ = some (.int .i64 unt) ∧ V.cell? ⟨B, 5, none⟩ = some (.slice ao ls.length cp) ∧ V.cell? ⟨B, 6, none⟩ = some (.string se) from ⟨hV, hV.cell (HB.out.cell rfl) (by simp), hV.cell (HB.out.cell rfl) (by simp), hV.cell (HB.out.cell rfl) (by simp), hV.cell (HB.out.cell rfl) (by simp), hV.cell (HB.out.cell rfl) (by simp), hV.cell (HB.out.cell rfl) (by simp), hV.cell (HB.out.cell rfl) (by simp)⟩)
  have HOK := Lib.hid ((icap_any W tn sp run frm unt ao cp ls se base (hl.kept HG.out (fun q e => by cases e)) hn hz h1 h2 h3 (hE.grown HG.out) (hP.grown HG.out)).mono (R' := fun e w' => e = .returned (.bool true) ∧ W.grownBy w' none) (fun e w' q => ⟨q.1.is_yes q0, q.2⟩))
  have b2 : (tn.toList == tenant.toList) = true := by rw [beq_iff_eq]; exact toL_iff.1 q2
  have b3 : (sp.toList == space.toList) = true := by rw [beq_iff_eq]; exact toL_iff.1 q3
  have HID := Lib.hid (fun (V : World) => (iid_any V id hi).mono (R' := fun e w' => e = .returned (.bool false) ∧ V.grownBy w' none) (fun e w' q => ⟨q.1.is_no q6, q.2⟩))
  have _hu := And.intro hk (And.intro hi hT)
  clear _hu
  have HW := Lib.hid hW
  have HBE := Lib.hid hB
  clear hW hB hl hz h1 h2 h3 hk hi hn hT hE hP q0 q2 q3 q6
  go_enter Tryz.func15, Tryz.ntmps15
  go_wp2_with fail
  rw [HW.out, HBE.out]
  refine HOK.out.mono ?_
  rintro e w1 ⟨rfl, hg1⟩
  have HG1 := Lib.hid hg1
  obtain ⟨-, c0, c1, c2, c3, c4, c5, c6⟩ := HALL.out w1 hg1
  clear hg1 HOK
  go_wp2_with fail
  clear c0 c1 c2 c3 c4 c5 c6
  refine (HID.out _).mono ?_
  rintro e w2 ⟨rfl, hg2⟩
  have HG2 := Lib.hid (grown_trans HG1.out hg2)
  clear hg2 HID HG1
  go_wp2
  go_ret
  exact ⟨rfl, grown_trans HG.out HG2.out⟩

set_option maxRecDepth 100000 in
set_option maxHeartbeats 16000000 in
theorem imay_1 (w : World) (hT : Tabs w) (hE : ErrC w) (hP : Pow w) (key tn sp : ByteArray) (run frm unt : Int) (ao : Option Addr) (cp : Nat) (ls : List ByteArray) (se tenant space : ByteArray) (rn : Int) (id : ByteArray) (now : Int) (base : Nat) (hl : Lies w base ao ls) (hn : ls.length ≤ 1048576) (hz : ∀ l ∈ ls, l.size ≤ 1048576) (h1 : tn.size ≤ 1048576) (h2 : sp.size ≤ 1048576) (h3 : se.size ≤ 1048576) (hk : key.size ≤ 1048576) (hi : id.size ≤ 1048576) (q0 : (CapP tn sp run frm unt ls se)) (q2 : (tn = tenant)) (q3 : (sp = space)) (q4 : (run = rn)) (q6 : (IdP id)) (q1 : ¬ (se = sealTo key (headC tn sp run.toNat frm.toNat unt.toNat) ls ls.length)) :
    Calls Tryz.prog 15 #[.string key, .agg #[.string tn, .string sp, .int .i64 run, .int .i64 frm, .int .i64 unt, .slice ao ls.length cp, .string se], .string tenant, .string space, .int .i64 rn, .string id, .int .i64 now] w fun e w' => e = .returned (.bool false) ∧ w.grownBy w' none := by
  obtain rfl : run = rn := q4
  obtain ⟨W, hW⟩ : ∃ W, w.alloc (Obj.cells #[Value.string tn, .string sp, .int .i64 run, .int .i64 frm, .int .i64 unt, .slice ao ls.length cp, .string se] 26) = W := ⟨_, rfl⟩
  obtain ⟨B, hB⟩ : ∃ x, w.heap.size = x := ⟨_, rfl⟩
  have HG := Lib.hid (show w.grownBy W none from by rw [← hW]; exact grown_alloc (grown_refl _ _) _)
  have HB := Lib.hid (show Blk W B 26 [.string tn, .string sp, .int .i64 run, .int .i64 frm, .int .i64 unt, .slice ao ls.length cp, .string se] from by rw [← hW, ← hB]; exact Blk.new w 26 _)
  have HALL := Lib.hid (fun (V : World) (hV : W.grownBy V none) => show W.grownBy V none ∧ V.cell? ⟨B, 0, none⟩ = some (.string tn) ∧ V.cell? ⟨B, 1, none⟩ = some (.string sp) ∧ V.cell? ⟨B, 2, none⟩ = some (.int .i64 run) ∧ V.cell? ⟨B, 3, none⟩ = some (.int .i64 frm) ∧ V.cell? ⟨B, 4, none⟩ = some (.int .i64 unt) ∧ V.cell? ⟨B, 5, none⟩ = some (.slice ao ls.length cp) ∧ V.cell? ⟨B, 6, none⟩ = some (.string se) from ⟨hV, hV.cell (HB.out.cell rfl) (by simp), hV.cell (HB.out.cell rfl) (by simp), hV.cell (HB.out.cell rfl) (by simp), hV.cell (HB.out.cell rfl) (by simp), hV.cell (HB.out.cell rfl) (by simp), hV.cell (HB.out.cell rfl) (by simp), hV.cell (HB.out.cell rfl) (by simp)⟩)
  have HOK := Lib.hid ((icap_any W tn sp run frm unt ao cp ls se base (hl.kept HG.out (fun q e => by cases e)) hn hz h1 h2 h3 (hE.grown HG.out) (hP.grown HG.out)).mono (R' := fun e w' => e = .returned (.bool true) ∧ W.grownBy w' none) (fun e w' q => ⟨q.1.is_yes q0, q.2⟩))
  have b2 : (tn.toList == tenant.toList) = true := by rw [beq_iff_eq]; exact toL_iff.1 q2
  have b3 : (sp.toList == space.toList) = true := by rw [beq_iff_eq]; exact toL_iff.1 q3
  have HID := Lib.hid (fun (V : World) => (iid_any V id hi).mono (R' := fun e w' => e = .returned (.bool true) ∧ V.grownBy w' none) (fun e w' q => ⟨q.1.is_yes q6, q.2⟩))
  obtain ⟨R, hR⟩ : ∃ R, sealTo key (headC tn sp run.toNat frm.toNat unt.toNat) ls ls.length = R := ⟨_, rfl⟩
  have HSE := Lib.hid (fun (V : World) (hV : W.grownBy V none) => show Calls Tryz.prog 38 #[.string key, .agg #[.string tn, .string sp, .int .i64 run, .int .i64 frm, .int .i64 unt, .slice ao ls.length cp, .string se]] V (fun e w' => e = .returned (.string R) ∧ V.grownBy w' none) from by
    obtain ⟨r, f, u, rfl, rfl, rfl, k1, k2, k3⟩ := cap_nat q0
    rw [← hR]
    exact iright_any V (hT.grown (grown_trans HG.out hV)) (hP.grown (grown_trans HG.out hV)) key tn sp r f u ao cp ls se base (hl.kept (grown_trans HG.out hV) (fun q e => by cases e)) hn hz hk h1 h2 k1 k2 k3)
  have b1 : (se.toList == R.toList) = false := by
    rw [hR] at q1
    rw [beq_eq_false_iff_ne]; exact fun h => q1 (toL_iff.2 h)
  have _hu := And.intro hk (And.intro hi hT)
  clear _hu
  have HW := Lib.hid hW
  have HBE := Lib.hid hB
  clear hW hB hl hz h1 h2 h3 hk hi hn hT hE hP q0 q2 q3 q6 q1 hR
  go_enter Tryz.func15, Tryz.ntmps15
  go_wp2_with fail
  rw [HW.out, HBE.out]
  refine HOK.out.mono ?_
  rintro e w1 ⟨rfl, hg1⟩
  have HG1 := Lib.hid hg1
  obtain ⟨-, c0, c1, c2, c3, c4, c5, c6⟩ := HALL.out w1 hg1
  clear hg1 HOK
  go_wp2_with fail
  clear c0 c1 c2 c3 c4 c5 c6
  refine (HID.out _).mono ?_
  rintro e w2 ⟨rfl, hg2⟩
  have HG2 := Lib.hid (grown_trans HG1.out hg2)
  clear hg2 HID HG1
  go_wp2
  refine wp_region_held_drew (S := fun w' => W.grownBy w' none ∧ w'.cell? ⟨B, 0, none⟩ = some (.string tn) ∧ w'.cell? ⟨B, 1, none⟩ = some (.string sp) ∧ w'.cell? ⟨B, 2, none⟩ = some (.int .i64 run) ∧ w'.cell? ⟨B, 3, none⟩ = some (.int .i64 frm) ∧ w'.cell? ⟨B, 4, none⟩ = some (.int .i64 unt) ∧ w'.cell? ⟨B, 5, none⟩ = some (.slice ao ls.length cp) ∧ w'.cell? ⟨B, 6, none⟩ = some (.string se)) (by kernel_rfl) (HALL.out _ (grown_drew HG2.out)) (fun hS => ?_)
  refine wpAnyH_take (i := 0) (oi := ⟨some 41, _, _, _, _, _⟩) (v := (.pointer (some ⟨B, 6, none⟩))) rfl (by kernel_rfl) (by kernel_rfl) (by kernel_rfl) (fun _ _ _ h => h) (Or.inl ⟨by kernel_rfl, fun w' hSw => ?_⟩) hS ?_
  · go_simp
    all_goals first | rfl | (simp [*]; done)
  simp only [Act.put, List.setIfInBounds_toArray, List.set_cons_zero, List.set_cons_succ]
  refine wpAnyH_take (i := 1) (oi := ⟨some 42, _, _, _, _, _⟩) (v := (.string se)) rfl (by kernel_rfl) (by kernel_rfl) (by kernel_rfl) (fun _ _ _ h => h) (Or.inl ⟨by kernel_rfl, fun w' hSw => ?_⟩) hS ?_
  · obtain ⟨s1, s2, s3, s4, s5, s6, s7, s8⟩ := hSw
    go_simp
    all_goals first | rfl | (simp [*]; done)
  simp only [Act.put, List.setIfInBounds_toArray, List.set_cons_zero, List.set_cons_succ]
  refine wpAnyH_take (i := 2) (oi := ⟨some 43, _, _, _, _, _⟩) (v := (.string key)) rfl (by kernel_rfl) (by kernel_rfl) (by kernel_rfl) (fun _ _ _ h => h) (Or.inl ⟨by kernel_rfl, fun w' hSw => ?_⟩) hS ?_
  · go_simp
    all_goals first | rfl | (simp [*]; done)
  simp only [Act.put, List.setIfInBounds_toArray, List.set_cons_zero, List.set_cons_succ]
  refine wpAnyH_take (i := 3) (oi := ⟨some 44, _, _, _, _, _⟩) (v := (.agg #[.string tn, .string sp, .int .i64 run, .int .i64 frm, .int .i64 unt, .slice ao ls.length cp, .string se])) rfl (by kernel_rfl) (by kernel_rfl) (by kernel_rfl) (fun _ _ _ h => h) (Or.inl ⟨by kernel_rfl, fun w' hSw => ?_⟩) hS ?_
  · obtain ⟨s1, s2, s3, s4, s5, s6, s7, s8⟩ := hSw
    go_simp
    all_goals first | rfl | (simp [*]; done)
  simp only [Act.put, List.setIfInBounds_toArray, List.set_cons_zero, List.set_cons_succ]
  refine wpAnyH_ready (rs := [4]) (by kernel_rfl) (by simp) ?_
  refine AllReadyH.cons (o := ⟨some 45, _, _, _, _, _⟩) rfl (fun K hK => ?_) AllReadyH.nil
  go_simp
  refine (HSE.out _ hS.1).mono ?_
  rintro e wa ⟨rfl, hga⟩
  go_simp
  refine hK.out _ _ (HALL.out _ (grown_trans hS.1 hga)) (fun hS => ?_)
  clear hK
  refine wpAnyH_take (i := 5) (oi := ⟨some 46, _, _, _, _, _⟩) (v := (.bool false)) rfl (by kernel_rfl) (by kernel_rfl) (by kernel_rfl) (fun _ _ _ h => h) (Or.inl ⟨by kernel_rfl, fun w' hSw => ?_⟩) hS ?_
  · go_simp
    all_goals first | rfl | (simp [*]; done)
  simp only [Act.put, List.setIfInBounds_toArray, List.set_cons_zero, List.set_cons_succ]
  refine wpAnyH_take (i := 6) (oi := ⟨some 47, _, _, _, _, _⟩) (v := (.bool false)) rfl (by kernel_rfl) (by kernel_rfl) (by kernel_rfl) (fun _ _ _ h => h) (Or.inl ⟨by kernel_rfl, fun w' hSw => ?_⟩) hS ?_
  · go_simp
    all_goals first | rfl | (simp [*]; done)
  simp only [Act.put, List.setIfInBounds_toArray, List.set_cons_zero, List.set_cons_succ]
  refine wpAnyH_take (i := 7) (oi := ⟨some 48, _, _, _, _, _⟩) (v := undef) rfl (by kernel_rfl) (by kernel_rfl) (by kernel_rfl) (fun _ _ _ h => h) (Or.inr ⟨by kernel_rfl, rfl⟩) hS ?_
  simp only [Act.put, List.setIfInBounds_toArray, List.set_cons_zero, List.set_cons_succ]
  refine wpAnyH_take (i := 8) (oi := ⟨some 49, _, _, _, _, _⟩) (v := undef) rfl (by kernel_rfl) (by kernel_rfl) (by kernel_rfl) (fun _ _ _ h => h) (Or.inr ⟨by kernel_rfl, rfl⟩) hS ?_
  simp only [Act.put, List.setIfInBounds_toArray, List.set_cons_zero, List.set_cons_succ]
  refine wpAnyH_take (i := 9) (oi := ⟨some 50, _, _, _, _, _⟩) (v := undef) rfl (by kernel_rfl) (by kernel_rfl) (by kernel_rfl) (fun _ _ _ h => h) (Or.inr ⟨by kernel_rfl, rfl⟩) hS ?_
  simp only [Act.put, List.setIfInBounds_toArray, List.set_cons_zero, List.set_cons_succ]
  refine wpAnyH_take (i := 10) (oi := ⟨some 51, _, _, _, _, _⟩) (v := undef) rfl (by kernel_rfl) (by kernel_rfl) (by kernel_rfl) (fun _ _ _ h => h) (Or.inr ⟨by kernel_rfl, rfl⟩) hS ?_
  simp only [Act.put, List.setIfInBounds_toArray, List.set_cons_zero, List.set_cons_succ]
  refine wpAnyH_take (i := 11) (oi := ⟨some 52, _, _, _, _, _⟩) (v := undef) rfl (by kernel_rfl) (by kernel_rfl) (by kernel_rfl) (fun _ _ _ h => h) (Or.inr ⟨by kernel_rfl, rfl⟩) hS ?_
  simp only [Act.put, List.setIfInBounds_toArray, List.set_cons_zero, List.set_cons_succ]
  refine wpAnyH_take (i := 12) (oi := ⟨some 53, _, _, _, _, _⟩) (v := (.bool false)) rfl (by kernel_rfl) (by kernel_rfl) (by kernel_rfl) (fun _ _ _ h => h) (Or.inl ⟨by kernel_rfl, fun w' hSw => ?_⟩) hS ?_
  · go_simp
    all_goals first | rfl | (simp [*]; done)
  simp only [Act.put, List.setIfInBounds_toArray, List.set_cons_zero, List.set_cons_succ]
  refine wpAnyH_take (i := 13) (oi := ⟨some 14, _, _, _, _, _⟩) (v := (.bool false)) rfl (by kernel_rfl) (by kernel_rfl) (by kernel_rfl) (fun _ _ _ h => h) (Or.inl ⟨by kernel_rfl, fun w' hSw => ?_⟩) hS ?_
  · go_simp
    all_goals first | rfl | (simp [*]; done)
  simp only [Act.put, List.setIfInBounds_toArray, List.set_cons_zero, List.set_cons_succ]
  refine wpAnyH_done (by kernel_rfl) ?_ _
  go_wp2
  go_ret
  exact ⟨rfl, grown_trans HG.out hS.1⟩

set_option maxRecDepth 100000 in
set_option maxHeartbeats 16000000 in
theorem imay_7 (w : World) (hT : Tabs w) (hE : ErrC w) (hP : Pow w) (key tn sp : ByteArray) (run frm unt : Int) (ao : Option Addr) (cp : Nat) (ls : List ByteArray) (se tenant space : ByteArray) (rn : Int) (id : ByteArray) (now : Int) (base : Nat) (hl : Lies w base ao ls) (hn : ls.length ≤ 1048576) (hz : ∀ l ∈ ls, l.size ≤ 1048576) (h1 : tn.size ≤ 1048576) (h2 : sp.size ≤ 1048576) (h3 : se.size ≤ 1048576) (hk : key.size ≤ 1048576) (hi : id.size ≤ 1048576) (q0 : (CapP tn sp run frm unt ls se)) (q2 : (tn = tenant)) (q3 : (sp = space)) (q4 : (run = rn)) (q6 : (IdP id)) (q1 : (se = sealTo key (headC tn sp run.toNat frm.toNat unt.toNat) ls ls.length)) :
    Calls Tryz.prog 15 #[.string key, .agg #[.string tn, .string sp, .int .i64 run, .int .i64 frm, .int .i64 unt, .slice ao ls.length cp, .string se], .string tenant, .string space, .int .i64 rn, .string id, .int .i64 now] w fun e w' => Says e (InR frm now unt ∧ ∀ l ∈ ls, LetP l id now) ∧ w.grownBy w' none := by
  obtain rfl : run = rn := q4
  obtain ⟨W, hW⟩ : ∃ W, w.alloc (Obj.cells #[Value.string tn, .string sp, .int .i64 run, .int .i64 frm, .int .i64 unt, .slice ao ls.length cp, .string se] 26) = W := ⟨_, rfl⟩
  obtain ⟨B, hB⟩ : ∃ x, w.heap.size = x := ⟨_, rfl⟩
  have HG := Lib.hid (show w.grownBy W none from by rw [← hW]; exact grown_alloc (grown_refl _ _) _)
  have HB := Lib.hid (show Blk W B 26 [.string tn, .string sp, .int .i64 run, .int .i64 frm, .int .i64 unt, .slice ao ls.length cp, .string se] from by rw [← hW, ← hB]; exact Blk.new w 26 _)
  have HALL := Lib.hid (fun (V : World) (hV : W.grownBy V none) => show W.grownBy V none ∧ V.cell? ⟨B, 0, none⟩ = some (.string tn) ∧ V.cell? ⟨B, 1, none⟩ = some (.string sp) ∧ V.cell? ⟨B, 2, none⟩ = some (.int .i64 run) ∧ V.cell? ⟨B, 3, none⟩ = some (.int .i64 frm) ∧ V.cell? ⟨B, 4, none⟩ = some (.int .i64 unt) ∧ V.cell? ⟨B, 5, none⟩ = some (.slice ao ls.length cp) ∧ V.cell? ⟨B, 6, none⟩ = some (.string se) from ⟨hV, hV.cell (HB.out.cell rfl) (by simp), hV.cell (HB.out.cell rfl) (by simp), hV.cell (HB.out.cell rfl) (by simp), hV.cell (HB.out.cell rfl) (by simp), hV.cell (HB.out.cell rfl) (by simp), hV.cell (HB.out.cell rfl) (by simp), hV.cell (HB.out.cell rfl) (by simp)⟩)
  have HOK := Lib.hid ((icap_any W tn sp run frm unt ao cp ls se base (hl.kept HG.out (fun q e => by cases e)) hn hz h1 h2 h3 (hE.grown HG.out) (hP.grown HG.out)).mono (R' := fun e w' => e = .returned (.bool true) ∧ W.grownBy w' none) (fun e w' q => ⟨q.1.is_yes q0, q.2⟩))
  have b2 : (tn.toList == tenant.toList) = true := by rw [beq_iff_eq]; exact toL_iff.1 q2
  have b3 : (sp.toList == space.toList) = true := by rw [beq_iff_eq]; exact toL_iff.1 q3
  have HID := Lib.hid (fun (V : World) => (iid_any V id hi).mono (R' := fun e w' => e = .returned (.bool true) ∧ V.grownBy w' none) (fun e w' q => ⟨q.1.is_yes q6, q.2⟩))
  obtain ⟨R, hR⟩ : ∃ R, sealTo key (headC tn sp run.toNat frm.toNat unt.toNat) ls ls.length = R := ⟨_, rfl⟩
  have HSE := Lib.hid (fun (V : World) (hV : W.grownBy V none) => show Calls Tryz.prog 38 #[.string key, .agg #[.string tn, .string sp, .int .i64 run, .int .i64 frm, .int .i64 unt, .slice ao ls.length cp, .string se]] V (fun e w' => e = .returned (.string R) ∧ V.grownBy w' none) from by
    obtain ⟨r, f, u, rfl, rfl, rfl, k1, k2, k3⟩ := cap_nat q0
    rw [← hR]
    exact iright_any V (hT.grown (grown_trans HG.out hV)) (hP.grown (grown_trans HG.out hV)) key tn sp r f u ao cp ls se base (hl.kept (grown_trans HG.out hV) (fun q e => by cases e)) hn hz hk h1 h2 k1 k2 k3)
  have b1 : (se.toList == R.toList) = true := by
    rw [hR] at q1
    rw [beq_iff_eq]; exact toL_iff.1 q1
  have HLM := Lib.hid (fun (V : World) (hV : W.grownBy V none) => climits_any V (hE.grown (grown_trans HG.out hV)) (hP.grown (grown_trans HG.out hV)) id now tn sp run frm unt ao cp ls se base (hl.kept (grown_trans HG.out hV) (fun q e => by cases e)) q0.2.2.1 hz q0.2.2.2.1)
  have HN4 := Lib.hid q0.2.2.1
  have _hu := And.intro hk (And.intro hi hT)
  clear _hu
  have HW := Lib.hid hW
  have HBE := Lib.hid hB
  clear hW hB hl hz h1 h2 h3 hk hi hn hT hE hP q0 q2 q3 q6 q1 hR
  go_enter Tryz.func15, Tryz.ntmps15
  go_wp2_with fail
  rw [HW.out, HBE.out]
  refine HOK.out.mono ?_
  rintro e w1 ⟨rfl, hg1⟩
  have HG1 := Lib.hid hg1
  obtain ⟨-, c0, c1, c2, c3, c4, c5, c6⟩ := HALL.out w1 hg1
  clear hg1 HOK
  go_wp2_with fail
  clear c0 c1 c2 c3 c4 c5 c6
  refine (HID.out _).mono ?_
  rintro e w2 ⟨rfl, hg2⟩
  have HG2 := Lib.hid (grown_trans HG1.out hg2)
  clear hg2 HID HG1
  go_wp2
  refine wp_region_held_drew (S := fun w' => W.grownBy w' none ∧ w'.cell? ⟨B, 0, none⟩ = some (.string tn) ∧ w'.cell? ⟨B, 1, none⟩ = some (.string sp) ∧ w'.cell? ⟨B, 2, none⟩ = some (.int .i64 run) ∧ w'.cell? ⟨B, 3, none⟩ = some (.int .i64 frm) ∧ w'.cell? ⟨B, 4, none⟩ = some (.int .i64 unt) ∧ w'.cell? ⟨B, 5, none⟩ = some (.slice ao ls.length cp) ∧ w'.cell? ⟨B, 6, none⟩ = some (.string se)) (by kernel_rfl) (HALL.out _ (grown_drew HG2.out)) (fun hS => ?_)
  refine wpAnyH_take (i := 0) (oi := ⟨some 41, _, _, _, _, _⟩) (v := (.pointer (some ⟨B, 6, none⟩))) rfl (by kernel_rfl) (by kernel_rfl) (by kernel_rfl) (fun _ _ _ h => h) (Or.inl ⟨by kernel_rfl, fun w' hSw => ?_⟩) hS ?_
  · go_simp
    all_goals first | rfl | (simp [*]; done)
  simp only [Act.put, List.setIfInBounds_toArray, List.set_cons_zero, List.set_cons_succ]
  refine wpAnyH_take (i := 1) (oi := ⟨some 42, _, _, _, _, _⟩) (v := (.string se)) rfl (by kernel_rfl) (by kernel_rfl) (by kernel_rfl) (fun _ _ _ h => h) (Or.inl ⟨by kernel_rfl, fun w' hSw => ?_⟩) hS ?_
  · obtain ⟨s1, s2, s3, s4, s5, s6, s7, s8⟩ := hSw
    go_simp
    all_goals first | rfl | (simp [*]; done)
  simp only [Act.put, List.setIfInBounds_toArray, List.set_cons_zero, List.set_cons_succ]
  refine wpAnyH_take (i := 2) (oi := ⟨some 43, _, _, _, _, _⟩) (v := (.string key)) rfl (by kernel_rfl) (by kernel_rfl) (by kernel_rfl) (fun _ _ _ h => h) (Or.inl ⟨by kernel_rfl, fun w' hSw => ?_⟩) hS ?_
  · go_simp
    all_goals first | rfl | (simp [*]; done)
  simp only [Act.put, List.setIfInBounds_toArray, List.set_cons_zero, List.set_cons_succ]
  refine wpAnyH_take (i := 3) (oi := ⟨some 44, _, _, _, _, _⟩) (v := (.agg #[.string tn, .string sp, .int .i64 run, .int .i64 frm, .int .i64 unt, .slice ao ls.length cp, .string se])) rfl (by kernel_rfl) (by kernel_rfl) (by kernel_rfl) (fun _ _ _ h => h) (Or.inl ⟨by kernel_rfl, fun w' hSw => ?_⟩) hS ?_
  · obtain ⟨s1, s2, s3, s4, s5, s6, s7, s8⟩ := hSw
    go_simp
    all_goals first | rfl | (simp [*]; done)
  simp only [Act.put, List.setIfInBounds_toArray, List.set_cons_zero, List.set_cons_succ]
  refine wpAnyH_ready (rs := [4]) (by kernel_rfl) (by simp) ?_
  refine AllReadyH.cons (o := ⟨some 45, _, _, _, _, _⟩) rfl (fun K hK => ?_) AllReadyH.nil
  go_simp
  refine (HSE.out _ hS.1).mono ?_
  rintro e wa ⟨rfl, hga⟩
  go_simp
  refine hK.out _ _ (HALL.out _ (grown_trans hS.1 hga)) (fun hS => ?_)
  clear hK
  refine wpAnyH_take (i := 5) (oi := ⟨some 46, _, _, _, _, _⟩) (v := (.bool true)) rfl (by kernel_rfl) (by kernel_rfl) (by kernel_rfl) (fun _ _ _ h => h) (Or.inl ⟨by kernel_rfl, fun w' hSw => ?_⟩) hS ?_
  · go_simp
    all_goals first | rfl | (simp [*]; done)
  simp only [Act.put, List.setIfInBounds_toArray, List.set_cons_zero, List.set_cons_succ]
  refine wpAnyH_take (i := 6) (oi := ⟨some 47, _, _, _, _, _⟩) (v := (.bool true)) rfl (by kernel_rfl) (by kernel_rfl) (by kernel_rfl) (fun _ _ _ h => h) (Or.inl ⟨by kernel_rfl, fun w' hSw => ?_⟩) hS ?_
  · go_simp
    all_goals first | rfl | (simp [*]; done)
  simp only [Act.put, List.setIfInBounds_toArray, List.set_cons_zero, List.set_cons_succ]
  refine wpAnyH_take (i := 7) (oi := ⟨some 48, _, _, _, _, _⟩) (v := (.string id)) rfl (by kernel_rfl) (by kernel_rfl) (by kernel_rfl) (fun _ _ _ h => h) (Or.inl ⟨by kernel_rfl, fun w' hSw => ?_⟩) hS ?_
  · go_simp
    all_goals first | rfl | (simp [*]; done)
  simp only [Act.put, List.setIfInBounds_toArray, List.set_cons_zero, List.set_cons_succ]
  refine wpAnyH_take (i := 8) (oi := ⟨some 49, _, _, _, _, _⟩) (v := (.int .i64 now)) rfl (by kernel_rfl) (by kernel_rfl) (by kernel_rfl) (fun _ _ _ h => h) (Or.inl ⟨by kernel_rfl, fun w' hSw => ?_⟩) hS ?_
  · go_simp
    all_goals first | rfl | (simp [*]; done)
  simp only [Act.put, List.setIfInBounds_toArray, List.set_cons_zero, List.set_cons_succ]
  refine wpAnyH_take (i := 9) (oi := ⟨some 50, _, _, _, _, _⟩) (v := (.agg #[.string tn, .string sp, .int .i64 run, .int .i64 frm, .int .i64 unt, .slice ao ls.length cp, .string se])) rfl (by kernel_rfl) (by kernel_rfl) (by kernel_rfl) (fun _ _ _ h => h) (Or.inl ⟨by kernel_rfl, fun w' hSw => ?_⟩) hS ?_
  · obtain ⟨s1, s2, s3, s4, s5, s6, s7, s8⟩ := hSw
    go_simp
    all_goals first | rfl | (simp [*]; done)
  simp only [Act.put, List.setIfInBounds_toArray, List.set_cons_zero, List.set_cons_succ]
  refine wpAnyH_ready (rs := [10]) (by kernel_rfl) (by simp) ?_
  refine AllReadyH.cons (o := ⟨some 51, _, _, _, _, _⟩) rfl (fun K hK => ?_) AllReadyH.nil
  go_simp
  refine (HLM.out _ hS.1).mono ?_
  rintro e wa ⟨⟨v, FL, bb, rfl, hrow, hfl, hlf⟩, hga⟩
  go_simp
  refine hK.out _ _ (HALL.out _ (grown_trans hS.1 hga)) (fun hS => ?_)
  clear hK
  refine wpAnyH_ready (rs := [11]) (by kernel_rfl) (by simp) ?_
  refine AllReadyH.cons (o := ⟨some 52, _, _, _, _, _⟩) rfl (fun K hK => ?_) AllReadyH.nil
  go_simp
  refine (lets_any _ id now bb v FL (PJ frm unt ls id now) (by omega) (by have := HN4.out; omega) hrow hlf).mono ?_
  rintro e wb ⟨⟨c, rfl, hc⟩, hga⟩
  go_simp
  refine hK.out _ _ (HALL.out _ (grown_trans hS.1 hga)) (fun hS => ?_)
  clear hK
  refine wpAnyH_take (i := 12) (oi := ⟨some 53, _, _, _, _, _⟩) (v := (.bool c)) rfl (by kernel_rfl) (by kernel_rfl) (by kernel_rfl) (fun _ _ _ h => h) (Or.inl ⟨by kernel_rfl, fun w' hSw => ?_⟩) hS ?_
  · go_simp
    all_goals first | rfl | (simp [*]; done)
  simp only [Act.put, List.setIfInBounds_toArray, List.set_cons_zero, List.set_cons_succ]
  refine wpAnyH_take (i := 13) (oi := ⟨some 14, _, _, _, _, _⟩) (v := (.bool c)) rfl (by kernel_rfl) (by kernel_rfl) (by kernel_rfl) (fun _ _ _ h => h) (Or.inl ⟨by kernel_rfl, fun w' hSw => ?_⟩) hS ?_
  · go_simp
    all_goals first | rfl | (simp [*]; done)
  simp only [Act.put, List.setIfInBounds_toArray, List.set_cons_zero, List.set_cons_succ]
  refine wpAnyH_done (by kernel_rfl) ?_ _
  have HD := Lib.hid (show Says (.returned (.bool c)) (InR frm now unt ∧ ∀ l ∈ ls, LetP l id now) from ⟨c, rfl, by rw [hc]; exact pj_all frm unt ls id now FL.length hfl⟩)
  have HGZ := Lib.hid (grown_trans HG.out hS.1)
  clear hc hlf hrow hS
  go_wp2
  go_ret
  exact ⟨HD.out, HGZ.out⟩

theorem imay_any (w : World) (hT : Tabs w) (hE : ErrC w) (hP : Pow w) (key tn sp : ByteArray) (run frm unt : Int) (ao : Option Addr) (cp : Nat) (ls : List ByteArray) (se tenant space : ByteArray) (rn : Int) (id : ByteArray) (now : Int) (base : Nat) (hl : Lies w base ao ls) (hn : ls.length ≤ 1048576) (hz : ∀ l ∈ ls, l.size ≤ 1048576) (h1 : tn.size ≤ 1048576) (h2 : sp.size ≤ 1048576) (h3 : se.size ≤ 1048576) (hk : key.size ≤ 1048576) (hi : id.size ≤ 1048576) :
    Calls Tryz.prog 15 #[.string key, .agg #[.string tn, .string sp, .int .i64 run, .int .i64 frm, .int .i64 unt, .slice ao ls.length cp, .string se], .string tenant, .string space, .int .i64 rn, .string id, .int .i64 now] w fun e w' => Says e (MayP key tn sp run frm unt ls se tenant space rn id now) ∧ w.grownBy w' none := by
  by_cases q0 : CapP tn sp run frm unt ls se
  case neg => exact (imay_0 w hT hE hP key tn sp run frm unt ao cp ls se tenant space rn id now base hl hn hz h1 h2 h3 hk hi q0).mono fun e w' q => ⟨by rw [q.1]; exact .no (fun h => q0 h.1), q.2⟩
  by_cases q2 : tn = tenant
  case neg => exact (imay_2 w hT hE hP key tn sp run frm unt ao cp ls se tenant space rn id now base hl hn hz h1 h2 h3 hk hi q0 q2).mono fun e w' q => ⟨by rw [q.1]; exact .no (fun h => q2 h.2.2.1), q.2⟩
  by_cases q3 : sp = space
  case neg => exact (imay_3 w hT hE hP key tn sp run frm unt ao cp ls se tenant space rn id now base hl hn hz h1 h2 h3 hk hi q0 q2 q3).mono fun e w' q => ⟨by rw [q.1]; exact .no (fun h => q3 h.2.2.2.1), q.2⟩
  by_cases q4 : run = rn
  case neg => exact (imay_4 w hT hE hP key tn sp run frm unt ao cp ls se tenant space rn id now base hl hn hz h1 h2 h3 hk hi q0 q2 q3 q4).mono fun e w' q => ⟨by rw [q.1]; exact .no (fun h => q4 h.2.2.2.2.1), q.2⟩
  by_cases q6 : IdP id
  case neg => exact (imay_6 w hT hE hP key tn sp run frm unt ao cp ls se tenant space rn id now base hl hn hz h1 h2 h3 hk hi q0 q2 q3 q4 q6).mono fun e w' q => ⟨by rw [q.1]; exact .no (fun h => q6 h.2.2.2.2.2.2.1), q.2⟩
  by_cases q1 : se = sealTo key (headC tn sp run.toNat frm.toNat unt.toNat) ls ls.length
  case neg => exact (imay_1 w hT hE hP key tn sp run frm unt ao cp ls se tenant space rn id now base hl hn hz h1 h2 h3 hk hi q0 q2 q3 q4 q6 q1).mono fun e w' q => ⟨by rw [q.1]; exact .no (fun h => q1 h.2.1), q.2⟩
  refine (imay_7 w hT hE hP key tn sp run frm unt ao cp ls se tenant space rn id now base hl hn hz h1 h2 h3 hk hi q0 q2 q3 q4 q6 q1).mono fun e w' q => ⟨?_, q.2⟩
  obtain ⟨b, rfl, hb⟩ := q.1
  exact ⟨b, rfl, hb.trans ⟨fun h => ⟨q0, q1, q2, q3, q4, h.1, q6, h.2⟩, fun h => ⟨h.2.2.2.2.2.1, h.2.2.2.2.2.2.2⟩⟩⟩
end Go.Proofs.YtecekbhkombnnaaGreatDoor
