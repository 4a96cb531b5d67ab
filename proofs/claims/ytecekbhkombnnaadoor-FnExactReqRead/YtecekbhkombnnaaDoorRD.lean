/- A request, copied by the program. -/
import Derived.Test.YtecekbhkombnnaaDoorRC
namespace Go.Proofs.YtecekbhkombnnaaDoor
open Go.RowKit

theorem Blk.same {w : World} {b : Nat} {t : TypeId} {L : List Value} (h : Blk w b t L) (j : Nat) (v : Value) (hv : L[j]? = some v) : Blk (w.setCell ⟨b, j, none⟩ v) b t L := by
  have h1 := h.set j v
  obtain ⟨h2, h3⟩ := List.getElem?_eq_some_iff.1 hv
  rw [← h3, List.set_getElem_self] at h1
  rw [← h3]
  exact h1
theorem infoReq : (Tryd.prog.info? 31).map (·.size) = some 7 := by kernel_rfl
def reqC (kd : Int) (tn us sp : ByteArray) (run num : Int) (tx : ByteArray) : List Value := [.int .i64 kd, .string tn, .string us, .string sp, .int .i64 run, .int .i64 num, .string tx]
theorem reqC_one (kd : Int) (tn us sp : ByteArray) (run num : Int) (tx : ByteArray) : ∀ v ∈ reqC kd tn us sp run num tx, v.oneCell' = true := by
  intro v hv
  simp [reqC] at hv
  rcases hv with rfl | rfl | rfl | rfl | rfl | rfl | rfl <;> rfl
/-- a request's box, and the result's -/
def RQ (w : World) (B C : Nat) (L Z : List Value) (V : World) : Prop := Blk V B 31 L ∧ Blk V C 31 Z ∧ w.grownBy V none ∧ w.heap.size ≤ B ∧ w.heap.size ≤ C ∧ B ≠ C
theorem RQ.grown {w : World} {B C : Nat} {L Z : List Value} {V V' : World} (h : RQ w B C L Z V) (hg : V.grownBy V' none) : RQ w B C L Z V' :=
  ⟨h.1.kept hg (by simp), h.2.1.kept hg (by simp), grown_trans h.2.2.1 hg, h.2.2.2⟩
theorem RQ.same {w : World} {B C : Nat} {L Z : List Value} {V : World} (h : RQ w B C L Z V) (j : Nat) (v : Value) (hv : L[j]? = some v) : RQ w B C L Z (V.setCell ⟨B, j, none⟩ v) :=
  ⟨h.1.same j v hv, h.2.1.kept (grown_set (grown_refl V (some B)) j v) (by have := h.2.2.2.2.2; simp; omega), grown_into h.2.2.1 (grown_set (grown_refl V (some B)) j v) h.2.2.2.1, h.2.2.2⟩

set_option maxRecDepth 100000 in
set_option maxHeartbeats 8000000 in
theorem icopied_any (w : World) (kd : Int) (tn us sp : ByteArray) (run num : Int) (tx : ByteArray) (h1 : tn.size ≤ 1048576) (h2 : us.size ≤ 1048576) (h3 : sp.size ≤ 1048576) (h4 : tx.size ≤ 1048576) :
    Calls Tryd.prog 32 #[.agg #[.int .i64 kd, .string tn, .string us, .string sp, .int .i64 run, .int .i64 num, .string tx]] w fun e w' => e = .returned (.agg (reqC kd tn us sp run num tx).toArray) ∧ w.grownBy w' none := by
  obtain ⟨W, hW⟩ : ∃ W, (w.alloc (Obj.cells #[Value.int .i64 kd, .string tn, .string us, .string sp, .int .i64 run, .int .i64 num, .string tx] 31)).alloc (Obj.cells #[Value.int .i64 0, .string ⟨#[]⟩, .string ⟨#[]⟩, .string ⟨#[]⟩, .int .i64 0, .int .i64 0, .string ⟨#[]⟩] 31) = W := ⟨_, rfl⟩
  obtain ⟨C, hC⟩ : ∃ x, w.heap.size + 1 = x := ⟨_, rfl⟩
  obtain ⟨B, hB⟩ : ∃ x, w.heap.size = x := ⟨_, rfl⟩
  obtain ⟨L, hL⟩ : ∃ L, reqC kd tn us sp run num tx = L := ⟨_, rfl⟩
  obtain ⟨Z, hZ⟩ : ∃ L, reqC 0 ⟨#[]⟩ ⟨#[]⟩ ⟨#[]⟩ 0 0 ⟨#[]⟩ = L := ⟨_, rfl⟩
  have HRQ := Lib.hid (show RQ w B C L Z W from by
    refine ⟨?_, ?_, ?_, by omega, by omega, by omega⟩
    · rw [← hW, ← hB, ← hL]; exact (Blk.new w 31 (reqC kd tn us sp run num tx)).alloc _
    · rw [← hW, ← hC, ← hZ]
      have := Blk.new (w.alloc (Obj.cells #[Value.int .i64 kd, .string tn, .string us, .string sp, .int .i64 run, .int .i64 num, .string tx] 31)) 31 (reqC 0 ⟨#[]⟩ ⟨#[]⟩ ⟨#[]⟩ 0 0 ⟨#[]⟩)
      rw [show (w.alloc (Obj.cells #[Value.int .i64 kd, .string tn, .string us, .string sp, .int .i64 run, .int .i64 num, .string tx] 31)).heap.size = w.heap.size + 1 from by simp] at this
      exact this
    · rw [← hW]; exact grown_alloc (grown_alloc (grown_refl _ _) _) _)
  have HL1 := Lib.hid (show L[1]? = some (.string tn) ∧ L[2]? = some (.string us) ∧ L[3]? = some (.string sp) ∧ L[6]? = some (.string tx) ∧ L.length = 7 ∧ (∀ v ∈ L, v.oneCell' = true) from by rw [← hL]; exact ⟨rfl, rfl, rfl, rfl, rfl, reqC_one _ _ _ _ _ _ _⟩)
  have HZL := Lib.hid (show Z.length = 7 from by rw [← hZ]; rfl)
  have HK := Lib.hid (fun (V : World) (h : RQ w B C L Z V) => show V.cell? ⟨B, 1, none⟩ = some (.string tn) ∧ V.cell? ⟨B, 2, none⟩ = some (.string us) ∧ V.cell? ⟨B, 3, none⟩ = some (.string sp) ∧ V.cell? ⟨B, 6, none⟩ = some (.string tx) ∧ V.frozen? ⟨B, 1, none⟩ = false ∧ V.frozen? ⟨B, 2, none⟩ = false ∧ V.frozen? ⟨B, 3, none⟩ = false ∧ V.frozen? ⟨B, 6, none⟩ = false ∧ RQ w B C L Z V from ⟨h.1.cell HL1.out.1, h.1.cell HL1.out.2.1, h.1.cell HL1.out.2.2.1, h.1.cell HL1.out.2.2.2.1, h.1.frozen _, h.1.frozen _, h.1.frozen _, h.1.frozen _, h⟩)
  have HK1 := Lib.hid (fun (V : World) (h : V.cell? ⟨B, 1, none⟩ = some (.string tn) ∧ V.cell? ⟨B, 2, none⟩ = some (.string us) ∧ V.cell? ⟨B, 3, none⟩ = some (.string sp) ∧ V.cell? ⟨B, 6, none⟩ = some (.string tx) ∧ V.frozen? ⟨B, 1, none⟩ = false ∧ V.frozen? ⟨B, 2, none⟩ = false ∧ V.frozen? ⟨B, 3, none⟩ = false ∧ V.frozen? ⟨B, 6, none⟩ = false ∧ RQ w B C L Z V) => HK.out (V.setCell ⟨B, 1, none⟩ (.string tn)) (h.2.2.2.2.2.2.2.2.same 1 _ HL1.out.1))
  have HK2 := Lib.hid (fun (V : World) (h : V.cell? ⟨B, 1, none⟩ = some (.string tn) ∧ V.cell? ⟨B, 2, none⟩ = some (.string us) ∧ V.cell? ⟨B, 3, none⟩ = some (.string sp) ∧ V.cell? ⟨B, 6, none⟩ = some (.string tx) ∧ V.frozen? ⟨B, 1, none⟩ = false ∧ V.frozen? ⟨B, 2, none⟩ = false ∧ V.frozen? ⟨B, 3, none⟩ = false ∧ V.frozen? ⟨B, 6, none⟩ = false ∧ RQ w B C L Z V) => HK.out (V.setCell ⟨B, 2, none⟩ (.string us)) (h.2.2.2.2.2.2.2.2.same 2 _ HL1.out.2.1))
  have HK3 := Lib.hid (fun (V : World) (h : V.cell? ⟨B, 1, none⟩ = some (.string tn) ∧ V.cell? ⟨B, 2, none⟩ = some (.string us) ∧ V.cell? ⟨B, 3, none⟩ = some (.string sp) ∧ V.cell? ⟨B, 6, none⟩ = some (.string tx) ∧ V.frozen? ⟨B, 1, none⟩ = false ∧ V.frozen? ⟨B, 2, none⟩ = false ∧ V.frozen? ⟨B, 3, none⟩ = false ∧ V.frozen? ⟨B, 6, none⟩ = false ∧ RQ w B C L Z V) => HK.out (V.setCell ⟨B, 3, none⟩ (.string sp)) (h.2.2.2.2.2.2.2.2.same 3 _ HL1.out.2.2.1))
  have HK6 := Lib.hid (fun (V : World) (h : V.cell? ⟨B, 1, none⟩ = some (.string tn) ∧ V.cell? ⟨B, 2, none⟩ = some (.string us) ∧ V.cell? ⟨B, 3, none⟩ = some (.string sp) ∧ V.cell? ⟨B, 6, none⟩ = some (.string tx) ∧ V.frozen? ⟨B, 1, none⟩ = false ∧ V.frozen? ⟨B, 2, none⟩ = false ∧ V.frozen? ⟨B, 3, none⟩ = false ∧ V.frozen? ⟨B, 6, none⟩ = false ∧ RQ w B C L Z V) => HK.out (V.setCell ⟨B, 6, none⟩ (.string tx)) (h.2.2.2.2.2.2.2.2.same 6 _ HL1.out.2.2.2.1))
  have HCL := Lib.hid (fun (V : World) (s : ByteArray) (hs : s.size ≤ 1048576) (h : V.cell? ⟨B, 1, none⟩ = some (.string tn) ∧ V.cell? ⟨B, 2, none⟩ = some (.string us) ∧ V.cell? ⟨B, 3, none⟩ = some (.string sp) ∧ V.cell? ⟨B, 6, none⟩ = some (.string tx) ∧ V.frozen? ⟨B, 1, none⟩ = false ∧ V.frozen? ⟨B, 2, none⟩ = false ∧ V.frozen? ⟨B, 3, none⟩ = false ∧ V.frozen? ⟨B, 6, none⟩ = false ∧ RQ w B C L Z V) => (clone_any V s hs).mono (R' := fun e w' => e = .returned (.string s) ∧ (w'.cell? ⟨B, 1, none⟩ = some (.string tn) ∧ w'.cell? ⟨B, 2, none⟩ = some (.string us) ∧ w'.cell? ⟨B, 3, none⟩ = some (.string sp) ∧ w'.cell? ⟨B, 6, none⟩ = some (.string tx) ∧ w'.frozen? ⟨B, 1, none⟩ = false ∧ w'.frozen? ⟨B, 2, none⟩ = false ∧ w'.frozen? ⟨B, 3, none⟩ = false ∧ w'.frozen? ⟨B, 6, none⟩ = false ∧ RQ w B C L Z w')) (fun e w' q => ⟨q.1, HK.out _ (h.2.2.2.2.2.2.2.2.grown q.2)⟩))
  have HSD := Lib.hid (HK.out W.drew ⟨HRQ.out.1.drew, HRQ.out.2.1.drew, grown_drew HRQ.out.2.2.1, HRQ.out.2.2.2⟩)
  have HW := Lib.hid hW
  have HB := Lib.hid hB
  have HC := Lib.hid hC
  have HLE := Lib.hid hL
  rw [hL]
  clear hW hB hC hZ hL
  go_enter Tryd.func32, Tryd.ntmps32
  go_wp2
  rw [HW.out, HC.out, HB.out]
  clear HW
  go_region_held3 (fun V => V.cell? ⟨B, 1, none⟩ = some (.string tn) ∧ V.cell? ⟨B, 2, none⟩ = some (.string us) ∧ V.cell? ⟨B, 3, none⟩ = some (.string sp) ∧ V.cell? ⟨B, 6, none⟩ = some (.string tx) ∧ V.frozen? ⟨B, 1, none⟩ = false ∧ V.frozen? ⟨B, 2, none⟩ = false ∧ V.frozen? ⟨B, 3, none⟩ = false ∧ V.frozen? ⟨B, 6, none⟩ = false ∧ RQ w B C L Z V)
    (first | assumption | (with_reducible exact HSD.out) | (with_reducible exact HK1.out _ (by assumption)) | (with_reducible exact HK2.out _ (by assumption)) | (with_reducible exact HK3.out _ (by assumption)) | (with_reducible exact HK6.out _ (by assumption)))
    (first
      | (go_at_call 39; refine (HCL.out _ _ (by first | exact h1 | exact h2 | exact h3 | exact h4) (by assumption)).mono ?_; rintro e wa ⟨rfl, hSa⟩))
  all_goals
    rename_i hSl
    have HF := Lib.hid hSl.2.2.2.2.2.2.2.2
    clear hSl HK HK1 HK2 HK3 HK6 HCL HSD HRQ
    go_wp2_with (first
      | (refine wpList_load_blk rfl 31 _ rfl B L 31 HF.out.1 _ Tryd.underlying31 rfl (by rw [HL1.out.2.2.2.2.1]; exact infoReq) rfl ?_)
      | (refine wpList_store_blk rfl 31 _ _ rfl C L Z 31 HF.out.2.1 (by rw [HL1.out.2.2.2.2.1]; exact infoReq) (by rw [HL1.out.2.2.2.2.1, HZL.out]) HL1.out.2.2.2.2.2 rfl rfl ?_; intro w2 hb2 hg2))
    exact ⟨rfl, _, results_blk1 Tryd.results32 _ _ C 31 _ _ hb2.out Tryd.underlying31 rfl (by rw [HL1.out.2.2.2.2.1]; exact infoReq) rfl, rfl, grown_into HF.out.2.2.1 hg2.out HF.out.2.2.2.2.1⟩
end Go.Proofs.YtecekbhkombnnaaDoor
