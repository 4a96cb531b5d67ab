/- A credential, copied by the program. -/
import Derived.Test.YtecekbhkombnnaaGreatDoorCN
import Derived.Test.YtecekbhkombnnaaGreatDoorP3
import Derived.Deep.CutRange
namespace Go.Proofs.YtecekbhkombnnaaGreatDoor
open Go.RowKit

theorem wpAnyH_more2 {P : Program} {md : Region.Mode} {ops : Array Oper} {Q : Exit → Act → World → Prop} {S S' : World → Prop} (hSS : ∀ w, S' w → S w) : ∀ {fuel : Nat} {listed : Array Bool} {a : Act} {w : World}, wpAnyH P md ops Q S' fuel listed a w → wpAnyH P md ops Q S fuel listed a w
  | 0, _, _, _, h => h
  | _ + 1, _, _, _, h => ⟨h.1, fun i hi => wpOp_mono (fun _ _ q => ⟨hSS _ q.1, wpAnyH_more2 hSS q.2⟩) (h.2 i hi)⟩
theorem step_store_blk2 {P : Program} {ops : Array Oper} {o : Oper} {a : Act} {w : World} {K : Act → World → Prop} {Q : Exit → Act → World → Prop} {E : Prop} (hw : Region.wanted o (yielded ops a.tmps) = true) (ty : TypeId) (x y : Operand) (ho : o.op = .store ty x y)
    (g : Nat) (L old : List Value) (t : TypeId) (hg : Blk w g t old) (hi : (P.info? ty).map (·.size) = some L.length) (hold : old.length = L.length) (h1 : ∀ v ∈ L, v.oneCell' = true)
    (hx : a.eval x = .pointer (some ⟨g, 0, none⟩)) (hy : a.eval y = .agg L.toArray)
    (h : ∀ w', Hid (Blk w' g t L) → Hid (w.grownBy w' (some g)) → K (a.put o.dst undef) w') : if Region.wanted o (yielded ops a.tmps) = true then Oper.wp P o a w K Q else E := by
  rw [if_pos hw]
  refine wp_store_row ty x y ho g L.toArray hx hy t old.toArray hg (by simpa using hi) (by simpa using hold) (by simpa using h1) ?_
  exact h _ (Lib.hid (setRow_heap w g _ _ t _ hg)) (Lib.hid ⟨rfl, rfl, rfl, by simp [World.setRow], fun k _ hr => setRow_other w g k _ (fun e => hr (by rw [e]))⟩)
/-- a credential's cells -/
def capC (tn sp : ByteArray) (run frm unt : Int) (v : Value) (se : ByteArray) : List Value := [.string tn, .string sp, .int .i64 run, .int .i64 frm, .int .i64 unt, v, .string se]
theorem capC_one (tn sp : ByteArray) (run frm unt : Int) (v : Value) (se : ByteArray) (h : v.oneCell' = true) : ∀ x ∈ capC tn sp run frm unt v se, x.oneCell' = true := by
  intro x hx
  simp [capC] at hx
  rcases hx with rfl | rfl | rfl | rfl | rfl | rfl | rfl <;> first | rfl | exact h
theorem Row.one {w : World} {base : Nat} {v : Value} {xs : List Value} (h : Row w base v xs) : v.oneCell' = true := by
  rcases h with ⟨rfl, -⟩ | ⟨g, cap, rfl, -⟩ <;> rfl

set_option maxRecDepth 100000 in
set_option maxHeartbeats 8000000 in
theorem ccopied_any (w : World) (tn sp : ByteArray) (run frm unt : Int) (ao : Option Addr) (cp : Nat) (ls : List ByteArray) (se : ByteArray) (base : Nat) (hl : Lies w base ao ls) (hn : ls.length ≤ 1048576) (hz : ∀ l ∈ ls, l.size ≤ 1048576) (h1 : tn.size ≤ 1048576) (h2 : sp.size ≤ 1048576) (h3 : se.size ≤ 1048576) :
    Calls Tryz.prog 27 #[.agg #[.string tn, .string sp, .int .i64 run, .int .i64 frm, .int .i64 unt, .slice ao ls.length cp, .string se]] w fun e w' => ∃ v, e = .returned (.agg (capC tn sp run frm unt v se).toArray) ∧ Row w' w.heap.size v (strs ls) ∧ w.grownBy w' none := by
  obtain ⟨W, hW⟩ : ∃ W, (w.alloc (Obj.cells #[Value.string tn, .string sp, .int .i64 run, .int .i64 frm, .int .i64 unt, .slice ao ls.length cp, .string se] 26)).alloc (Obj.cells #[Value.string ⟨#[]⟩, .string ⟨#[]⟩, .int .i64 0, .int .i64 0, .int .i64 0, .slice none 0 0, .string ⟨#[]⟩] 26) = W := ⟨_, rfl⟩
  obtain ⟨C, hC⟩ : ∃ x, w.heap.size + 1 = x := ⟨_, rfl⟩
  obtain ⟨B, hB⟩ : ∃ x, w.heap.size = x := ⟨_, rfl⟩
  have HG := Lib.hid (show w.grownBy W none from by rw [← hW]; exact grown_alloc (grown_alloc (grown_refl _ _) _) _)
  have HBB := Lib.hid (show Blk W B 26 [.string tn, .string sp, .int .i64 run, .int .i64 frm, .int .i64 unt, .slice ao ls.length cp, .string se] from by rw [← hW, ← hB]; exact (Blk.new w 26 [.string tn, .string sp, .int .i64 run, .int .i64 frm, .int .i64 unt, .slice ao ls.length cp, .string se]).alloc _)
  have HCC := Lib.hid (show Blk W C 26 [.string ⟨#[]⟩, .string ⟨#[]⟩, .int .i64 0, .int .i64 0, .int .i64 0, .slice none 0 0, .string ⟨#[]⟩] from by
    rw [← hW, ← hC]
    have := Blk.new (w.alloc (Obj.cells #[Value.string tn, .string sp, .int .i64 run, .int .i64 frm, .int .i64 unt, .slice ao ls.length cp, .string se] 26)) 26 [.string ⟨#[]⟩, .string ⟨#[]⟩, .int .i64 0, .int .i64 0, .int .i64 0, .slice none 0 0, .string ⟨#[]⟩]
    rw [show (w.alloc (Obj.cells #[Value.string tn, .string sp, .int .i64 run, .int .i64 frm, .int .i64 unt, .slice ao ls.length cp, .string se] 26)).heap.size = w.heap.size + 1 from by simp] at this
    exact this)
  have HNE := Lib.hid (show B < C ∧ w.heap.size ≤ C from ⟨by omega, by omega⟩)
  have HSD := Lib.hid (show W.drew.cell? ⟨B, 0, none⟩ = some (.string tn) ∧ W.drew.cell? ⟨B, 1, none⟩ = some (.string sp) ∧ W.drew.cell? ⟨B, 2, none⟩ = some (.int .i64 run) ∧ W.drew.cell? ⟨B, 3, none⟩ = some (.int .i64 frm) ∧ W.drew.cell? ⟨B, 4, none⟩ = some (.int .i64 unt) ∧ W.drew.cell? ⟨B, 5, none⟩ = some (.slice ao ls.length cp) ∧ W.drew.cell? ⟨B, 6, none⟩ = some (.string se) ∧ (∃ LZ : List Value, LZ.length = 7 ∧ Blk W.drew C 26 LZ) ∧ w.grownBy W.drew none from ⟨HBB.out.drew.cell rfl, HBB.out.drew.cell rfl, HBB.out.drew.cell rfl, HBB.out.drew.cell rfl, HBB.out.drew.cell rfl, HBB.out.drew.cell rfl, HBB.out.drew.cell rfl, ⟨_, rfl, HCC.out.drew⟩, grown_drew HG.out⟩)
  have HSG := Lib.hid (fun (V V' : World) (h : V.cell? ⟨B, 0, none⟩ = some (.string tn) ∧ V.cell? ⟨B, 1, none⟩ = some (.string sp) ∧ V.cell? ⟨B, 2, none⟩ = some (.int .i64 run) ∧ V.cell? ⟨B, 3, none⟩ = some (.int .i64 frm) ∧ V.cell? ⟨B, 4, none⟩ = some (.int .i64 unt) ∧ V.cell? ⟨B, 5, none⟩ = some (.slice ao ls.length cp) ∧ V.cell? ⟨B, 6, none⟩ = some (.string se) ∧ (∃ LZ : List Value, LZ.length = 7 ∧ Blk V C 26 LZ) ∧ w.grownBy V none) (hg : V.grownBy V' none) => show V'.cell? ⟨B, 0, none⟩ = some (.string tn) ∧ V'.cell? ⟨B, 1, none⟩ = some (.string sp) ∧ V'.cell? ⟨B, 2, none⟩ = some (.int .i64 run) ∧ V'.cell? ⟨B, 3, none⟩ = some (.int .i64 frm) ∧ V'.cell? ⟨B, 4, none⟩ = some (.int .i64 unt) ∧ V'.cell? ⟨B, 5, none⟩ = some (.slice ao ls.length cp) ∧ V'.cell? ⟨B, 6, none⟩ = some (.string se) ∧ (∃ LZ : List Value, LZ.length = 7 ∧ Blk V' C 26 LZ) ∧ w.grownBy V' none from ⟨hg.cell h.1 (by simp), hg.cell h.2.1 (by simp), hg.cell h.2.2.1 (by simp), hg.cell h.2.2.2.1 (by simp), hg.cell h.2.2.2.2.1 (by simp), hg.cell h.2.2.2.2.2.1 (by simp), hg.cell h.2.2.2.2.2.2.1 (by simp), h.2.2.2.2.2.2.2.1.elim (fun LZ q => ⟨LZ, q.1, q.2.kept hg (by simp)⟩), grown_trans h.2.2.2.2.2.2.2.2 hg⟩)
  have HSG1 := Lib.hid (fun (V V' : World) (h : V.cell? ⟨B, 0, none⟩ = some (.string tn) ∧ V.cell? ⟨B, 1, none⟩ = some (.string sp) ∧ V.cell? ⟨B, 2, none⟩ = some (.int .i64 run) ∧ V.cell? ⟨B, 3, none⟩ = some (.int .i64 frm) ∧ V.cell? ⟨B, 4, none⟩ = some (.int .i64 unt) ∧ V.cell? ⟨B, 5, none⟩ = some (.slice ao ls.length cp) ∧ V.cell? ⟨B, 6, none⟩ = some (.string se) ∧ (∃ LZ : List Value, LZ.length = 7 ∧ Blk V C 26 LZ) ∧ w.grownBy V none) (hg : V.grownBy V' (some C)) (LN : List Value) (hn : LN.length = 7) (hb : Blk V' C 26 LN) => show V'.cell? ⟨B, 0, none⟩ = some (.string tn) ∧ V'.cell? ⟨B, 1, none⟩ = some (.string sp) ∧ V'.cell? ⟨B, 2, none⟩ = some (.int .i64 run) ∧ V'.cell? ⟨B, 3, none⟩ = some (.int .i64 frm) ∧ V'.cell? ⟨B, 4, none⟩ = some (.int .i64 unt) ∧ V'.cell? ⟨B, 5, none⟩ = some (.slice ao ls.length cp) ∧ V'.cell? ⟨B, 6, none⟩ = some (.string se) ∧ (∃ LZ : List Value, LZ.length = 7 ∧ Blk V' C 26 LZ) ∧ w.grownBy V' none from ⟨hg.cell h.1 (by have := HNE.out; simp; omega), hg.cell h.2.1 (by have := HNE.out; simp; omega), hg.cell h.2.2.1 (by have := HNE.out; simp; omega), hg.cell h.2.2.2.1 (by have := HNE.out; simp; omega), hg.cell h.2.2.2.2.1 (by have := HNE.out; simp; omega), hg.cell h.2.2.2.2.2.1 (by have := HNE.out; simp; omega), hg.cell h.2.2.2.2.2.2.1 (by have := HNE.out; simp; omega), ⟨LN, hn, hb⟩, grown_into h.2.2.2.2.2.2.2.2 hg HNE.out.2⟩)
  have HLT := Lib.hid (fun (V : World) (h : V.cell? ⟨B, 0, none⟩ = some (.string tn) ∧ V.cell? ⟨B, 1, none⟩ = some (.string sp) ∧ V.cell? ⟨B, 2, none⟩ = some (.int .i64 run) ∧ V.cell? ⟨B, 3, none⟩ = some (.int .i64 frm) ∧ V.cell? ⟨B, 4, none⟩ = some (.int .i64 unt) ∧ V.cell? ⟨B, 5, none⟩ = some (.slice ao ls.length cp) ∧ V.cell? ⟨B, 6, none⟩ = some (.string se) ∧ (∃ LZ : List Value, LZ.length = 7 ∧ Blk V C 26 LZ) ∧ w.grownBy V none) => show C + 1 ≤ V.heap.size from h.2.2.2.2.2.2.2.1.elim (fun LZ q => q.2.lt))
  have HTC := Lib.hid (fun (V : World) (hV : w.grownBy V none) => copied_any V base ao cp ls (hl.kept hV (fun q e => by cases e)) (by omega) hz)
  have HW := Lib.hid hW
  have HB := Lib.hid hB
  have HC := Lib.hid hC
  clear hW hB hC hl hz
  go_enter Tryz.func27, Tryz.ntmps27
  go_wp2
  rw [HW.out, HC.out, HB.out]
  clear HW
  refine wp_region_held_drew (S := fun w' => w'.cell? ⟨B, 0, none⟩ = some (.string tn) ∧ w'.cell? ⟨B, 1, none⟩ = some (.string sp) ∧ w'.cell? ⟨B, 2, none⟩ = some (.int .i64 run) ∧ w'.cell? ⟨B, 3, none⟩ = some (.int .i64 frm) ∧ w'.cell? ⟨B, 4, none⟩ = some (.int .i64 unt) ∧ w'.cell? ⟨B, 5, none⟩ = some (.slice ao ls.length cp) ∧ w'.cell? ⟨B, 6, none⟩ = some (.string se) ∧ (∃ LZ : List Value, LZ.length = 7 ∧ Blk w' C 26 LZ) ∧ w.grownBy w' none) (by kernel_rfl) (HSD.out) (fun hS => ?_)
  refine wpAnyH_take (i := 0) (oi := ⟨some 3, _, _, _, _, _⟩) (v := (.pointer (some ⟨B, 0, none⟩))) rfl (by kernel_rfl) (by kernel_rfl) (by kernel_rfl) (fun _ _ _ h => h) (Or.inl ⟨by kernel_rfl, fun w' hSw => ?_⟩) hS ?_
  · go_simp
    all_goals first | rfl | (simp [*]; done) | (simp [capC]; done)
  simp only [Act.put, List.setIfInBounds_toArray, List.set_cons_zero, List.set_cons_succ]
  refine wpAnyH_take (i := 1) (oi := ⟨some 4, _, _, _, _, _⟩) (v := (.string tn)) rfl (by kernel_rfl) (by kernel_rfl) (by kernel_rfl) (fun _ _ _ h => h) (Or.inl ⟨by kernel_rfl, fun w' hSw => ?_⟩) hS ?_
  · obtain ⟨s1, s2, s3, s4, s5, s6, s7, s8, s9⟩ := hSw
    go_simp
    all_goals first | rfl | (simp [*]; done) | (simp [capC]; done)
  simp only [Act.put, List.setIfInBounds_toArray, List.set_cons_zero, List.set_cons_succ]
  refine wpAnyH_take (i := 3) (oi := ⟨some 6, _, _, _, _, _⟩) (v := (.pointer (some ⟨B, 1, none⟩))) rfl (by kernel_rfl) (by kernel_rfl) (by kernel_rfl) (fun _ _ _ h => h) (Or.inl ⟨by kernel_rfl, fun w' hSw => ?_⟩) hS ?_
  · go_simp
    all_goals first | rfl | (simp [*]; done) | (simp [capC]; done)
  simp only [Act.put, List.setIfInBounds_toArray, List.set_cons_zero, List.set_cons_succ]
  refine wpAnyH_take (i := 4) (oi := ⟨some 7, _, _, _, _, _⟩) (v := (.string sp)) rfl (by kernel_rfl) (by kernel_rfl) (by kernel_rfl) (fun _ _ _ h => h) (Or.inl ⟨by kernel_rfl, fun w' hSw => ?_⟩) hS ?_
  · obtain ⟨s1, s2, s3, s4, s5, s6, s7, s8, s9⟩ := hSw
    go_simp
    all_goals first | rfl | (simp [*]; done) | (simp [capC]; done)
  simp only [Act.put, List.setIfInBounds_toArray, List.set_cons_zero, List.set_cons_succ]
  refine wpAnyH_take (i := 6) (oi := ⟨some 9, _, _, _, _, _⟩) (v := (.pointer (some ⟨B, 2, none⟩))) rfl (by kernel_rfl) (by kernel_rfl) (by kernel_rfl) (fun _ _ _ h => h) (Or.inl ⟨by kernel_rfl, fun w' hSw => ?_⟩) hS ?_
  · go_simp
    all_goals first | rfl | (simp [*]; done) | (simp [capC]; done)
  simp only [Act.put, List.setIfInBounds_toArray, List.set_cons_zero, List.set_cons_succ]
  refine wpAnyH_take (i := 7) (oi := ⟨some 10, _, _, _, _, _⟩) (v := (.int .i64 run)) rfl (by kernel_rfl) (by kernel_rfl) (by kernel_rfl) (fun _ _ _ h => h) (Or.inl ⟨by kernel_rfl, fun w' hSw => ?_⟩) hS ?_
  · obtain ⟨s1, s2, s3, s4, s5, s6, s7, s8, s9⟩ := hSw
    go_simp
    all_goals first | rfl | (simp [*]; done) | (simp [capC]; done)
  simp only [Act.put, List.setIfInBounds_toArray, List.set_cons_zero, List.set_cons_succ]
  refine wpAnyH_take (i := 8) (oi := ⟨some 11, _, _, _, _, _⟩) (v := (.pointer (some ⟨B, 3, none⟩))) rfl (by kernel_rfl) (by kernel_rfl) (by kernel_rfl) (fun _ _ _ h => h) (Or.inl ⟨by kernel_rfl, fun w' hSw => ?_⟩) hS ?_
  · go_simp
    all_goals first | rfl | (simp [*]; done) | (simp [capC]; done)
  simp only [Act.put, List.setIfInBounds_toArray, List.set_cons_zero, List.set_cons_succ]
  refine wpAnyH_take (i := 9) (oi := ⟨some 12, _, _, _, _, _⟩) (v := (.int .i64 frm)) rfl (by kernel_rfl) (by kernel_rfl) (by kernel_rfl) (fun _ _ _ h => h) (Or.inl ⟨by kernel_rfl, fun w' hSw => ?_⟩) hS ?_
  · obtain ⟨s1, s2, s3, s4, s5, s6, s7, s8, s9⟩ := hSw
    go_simp
    all_goals first | rfl | (simp [*]; done) | (simp [capC]; done)
  simp only [Act.put, List.setIfInBounds_toArray, List.set_cons_zero, List.set_cons_succ]
  refine wpAnyH_take (i := 10) (oi := ⟨some 13, _, _, _, _, _⟩) (v := (.pointer (some ⟨B, 4, none⟩))) rfl (by kernel_rfl) (by kernel_rfl) (by kernel_rfl) (fun _ _ _ h => h) (Or.inl ⟨by kernel_rfl, fun w' hSw => ?_⟩) hS ?_
  · go_simp
    all_goals first | rfl | (simp [*]; done) | (simp [capC]; done)
  simp only [Act.put, List.setIfInBounds_toArray, List.set_cons_zero, List.set_cons_succ]
  refine wpAnyH_take (i := 11) (oi := ⟨some 14, _, _, _, _, _⟩) (v := (.int .i64 unt)) rfl (by kernel_rfl) (by kernel_rfl) (by kernel_rfl) (fun _ _ _ h => h) (Or.inl ⟨by kernel_rfl, fun w' hSw => ?_⟩) hS ?_
  · obtain ⟨s1, s2, s3, s4, s5, s6, s7, s8, s9⟩ := hSw
    go_simp
    all_goals first | rfl | (simp [*]; done) | (simp [capC]; done)
  simp only [Act.put, List.setIfInBounds_toArray, List.set_cons_zero, List.set_cons_succ]
  refine wpAnyH_take (i := 12) (oi := ⟨some 15, _, _, _, _, _⟩) (v := (.pointer (some ⟨B, 5, none⟩))) rfl (by kernel_rfl) (by kernel_rfl) (by kernel_rfl) (fun _ _ _ h => h) (Or.inl ⟨by kernel_rfl, fun w' hSw => ?_⟩) hS ?_
  · go_simp
    all_goals first | rfl | (simp [*]; done) | (simp [capC]; done)
  simp only [Act.put, List.setIfInBounds_toArray, List.set_cons_zero, List.set_cons_succ]
  refine wpAnyH_take (i := 13) (oi := ⟨some 16, _, _, _, _, _⟩) (v := (.slice ao ls.length cp)) rfl (by kernel_rfl) (by kernel_rfl) (by kernel_rfl) (fun _ _ _ h => h) (Or.inl ⟨by kernel_rfl, fun w' hSw => ?_⟩) hS ?_
  · obtain ⟨s1, s2, s3, s4, s5, s6, s7, s8, s9⟩ := hSw
    go_simp
    all_goals first | rfl | (simp [*]; done) | (simp [capC]; done)
  simp only [Act.put, List.setIfInBounds_toArray, List.set_cons_zero, List.set_cons_succ]
  refine wpAnyH_take (i := 15) (oi := ⟨some 18, _, _, _, _, _⟩) (v := (.pointer (some ⟨B, 6, none⟩))) rfl (by kernel_rfl) (by kernel_rfl) (by kernel_rfl) (fun _ _ _ h => h) (Or.inl ⟨by kernel_rfl, fun w' hSw => ?_⟩) hS ?_
  · go_simp
    all_goals first | rfl | (simp [*]; done) | (simp [capC]; done)
  simp only [Act.put, List.setIfInBounds_toArray, List.set_cons_zero, List.set_cons_succ]
  refine wpAnyH_take (i := 16) (oi := ⟨some 19, _, _, _, _, _⟩) (v := (.string se)) rfl (by kernel_rfl) (by kernel_rfl) (by kernel_rfl) (fun _ _ _ h => h) (Or.inl ⟨by kernel_rfl, fun w' hSw => ?_⟩) hS ?_
  · obtain ⟨s1, s2, s3, s4, s5, s6, s7, s8, s9⟩ := hSw
    go_simp
    all_goals first | rfl | (simp [*]; done) | (simp [capC]; done)
  simp only [Act.put, List.setIfInBounds_toArray, List.set_cons_zero, List.set_cons_succ]
  refine wpAnyH_ready (rs := [2]) (by kernel_rfl) (by simp) ?_
  refine AllReadyH.cons (o := ⟨some 5, _, _, _, _, _⟩) rfl (fun K hK => ?_) AllReadyH.nil
  go_simp
  refine (clone_any _ _ h1).mono ?_
  rintro e wa ⟨rfl, hga⟩
  go_simp
  refine hK.out _ _ (HSG.out _ _ hS hga) (fun hS => ?_)
  clear hK
  refine wpAnyH_ready (rs := [5]) (by kernel_rfl) (by simp) ?_
  refine AllReadyH.cons (o := ⟨some 8, _, _, _, _, _⟩) rfl (fun K hK => ?_) AllReadyH.nil
  go_simp
  refine (clone_any _ _ h2).mono ?_
  rintro e wa ⟨rfl, hga⟩
  go_simp
  refine hK.out _ _ (HSG.out _ _ hS hga) (fun hS => ?_)
  clear hK
  refine wpAnyH_ready (rs := [14]) (by kernel_rfl) (by simp) ?_
  refine AllReadyH.cons (o := ⟨some 17, _, _, _, _, _⟩) rfl (fun K hK => ?_) AllReadyH.nil
  go_simp
  have hlt := HLT.out _ hS
  refine (HTC.out _ hS.2.2.2.2.2.2.2.2).mono ?_
  rintro e wa ⟨v, rfl, hrow, hga⟩
  have hrow2 := hrow.base hlt
  obtain ⟨an, cn, hv, -⟩ := hrow2.lies
  subst hv
  go_simp
  refine hK.out _ _ (HSG.out _ _ hS hga) (fun hS => ?_)
  clear hK
  refine wpAnyH_more2 (S' := fun w' => (w'.cell? ⟨B, 0, none⟩ = some (.string tn) ∧ w'.cell? ⟨B, 1, none⟩ = some (.string sp) ∧ w'.cell? ⟨B, 2, none⟩ = some (.int .i64 run) ∧ w'.cell? ⟨B, 3, none⟩ = some (.int .i64 frm) ∧ w'.cell? ⟨B, 4, none⟩ = some (.int .i64 unt) ∧ w'.cell? ⟨B, 5, none⟩ = some (.slice ao ls.length cp) ∧ w'.cell? ⟨B, 6, none⟩ = some (.string se) ∧ (∃ LZ : List Value, LZ.length = 7 ∧ Blk w' C 26 LZ) ∧ w.grownBy w' none) ∧ Row w' (C + 1) (.slice an ls.length cn) (strs ls)) (fun _ h => h.1) ?_
  have hS := And.intro hS hrow2
  refine wpAnyH_ready (rs := [17]) (by kernel_rfl) (by simp) ?_
  refine AllReadyH.cons (o := ⟨some 20, _, _, _, _, _⟩) rfl (fun K hK => ?_) AllReadyH.nil
  go_simp
  refine (clone_any _ _ h3).mono ?_
  rintro e wa ⟨rfl, hga⟩
  go_simp
  refine hK.out _ _ ⟨HSG.out _ _ hS.1 hga, hS.2.kept hga (by simp)⟩ (fun hS => ?_)
  clear hK
  refine wpAnyH_take (i := 18) (oi := ⟨some 21, _, _, _, _, _⟩) (v := (.agg (capC tn sp run frm unt (.slice an ls.length cn) se).toArray)) rfl (by kernel_rfl) (by kernel_rfl) (by kernel_rfl) (fun _ _ _ h => h) (Or.inl ⟨by kernel_rfl, fun w' hSw => ?_⟩) hS ?_
  · go_simp
    all_goals first | rfl | (simp [*]; done) | (simp [capC]; done)
  simp only [Act.put, List.setIfInBounds_toArray, List.set_cons_zero, List.set_cons_succ]
  refine wpAnyH_ready (rs := [19]) (by kernel_rfl) (by simp) ?_
  refine AllReadyH.cons (o := ⟨none, _, _, _, _, _⟩) rfl (fun K hK => ?_) AllReadyH.nil
  obtain ⟨LZ, hLZ, hLB⟩ := hS.1.2.2.2.2.2.2.2.1
  refine step_store_blk2 (by kernel_rfl) 26 _ _ rfl C (capC tn sp run frm unt (.slice an ls.length cn) se) LZ 26 hLB infoCap (by rw [hLZ]; rfl) (capC_one _ _ _ _ _ _ _ hS.2.one) rfl rfl ?_
  intro w3 hb3 hg3
  refine hK.out _ _ ⟨HSG1.out _ _ hS.1 hg3.out _ rfl hb3.out, hS.2.kept hg3.out (fun k hk e => by have h5 := (hS.2.lt k hk).1; have h6 := Option.some.inj e; omega)⟩ (fun hS3 => ?_)
  clear hK
  refine wpAnyH_done (by kernel_rfl) ?_ _
  have HF := Lib.hid hS3
  clear hS3 hS
  go_wp2
  exact ⟨rfl, _, results_blk1 Tryz.results27 _ _ C 26 _ _ hb3.out Tryz.underlying26 rfl infoCap rfl, _, rfl, HF.out.2.base (by have := HNE.out; omega), HF.out.1.2.2.2.2.2.2.2.2⟩
end Go.Proofs.YtecekbhkombnnaaGreatDoor
