/- A request, read by the program. -/
import Derived.Test.YtecekbhkombnnaaDoorRD
namespace Go.Proofs.YtecekbhkombnnaaDoor
open Go.RowKit

theorem zeroReq_len : (reqC 0 ⟨#[]⟩ ⟨#[]⟩ ⟨#[]⟩ 0 0 ⟨#[]⟩).length = 7 := rfl

set_option maxRecDepth 100000 in
set_option maxHeartbeats 8000000 in
theorem iread_no (w : World) (p : ByteArray) (hs : p.size ≤ 1048576) (hn : ¬ SixW 6 p) : Calls Tryd.prog 11 #[.string p] w fun e w' => RRes p e ∧ w.grownBy w' none := by
  have HRN := Lib.hid (rres_none (text := p) (fun h => by
    obtain ⟨m, tn, us, sp, r, n, tx, hp, hw⟩ := h
    exact hn (words_write p m tn us sp r n tx hp hw).1))
  have HNS := Lib.hid hn
  obtain ⟨W, hW⟩ : ∃ W, w.alloc (Obj.cells #[Value.int .i64 0, .string ⟨#[]⟩, .string ⟨#[]⟩, .string ⟨#[]⟩, .int .i64 0, .int .i64 0, .string ⟨#[]⟩] 31) = W := ⟨_, rfl⟩
  obtain ⟨C, hC⟩ : ∃ x, w.heap.size = x := ⟨_, rfl⟩
  have HBC := Lib.hid (show Blk W C 31 (reqC 0 ⟨#[]⟩ ⟨#[]⟩ ⟨#[]⟩ 0 0 ⟨#[]⟩) from by rw [← hW, ← hC]; exact Blk.new w 31 _)
  have HG := Lib.hid (show w.grownBy W none from by rw [← hW]; exact grown_alloc (grown_refl _ _) _)
  have HCU := Lib.hid (icut_any W p hs)
  have HW := Lib.hid hW
  have HCE := Lib.hid hC
  clear hn hW hC
  go_enter Tryd.func11, Tryd.ntmps11
  go_wp2_with fail
  rw [HW.out, HCE.out]
  refine HCU.out.mono ?_
  rintro e w1 ⟨⟨L, b, hL, rfl, hb⟩, hg1⟩
  have HG1 := Lib.hid (grown_trans HG.out hg1)
  have HBC1 := Lib.hid (HBC.out.kept hg1 (by simp))
  rcases hb with ⟨rfl, h6, -⟩ | ⟨rfl, -⟩
  · exact absurd h6 HNS.out
  have HLL := Lib.hid hL
  have hcl : C < w1.heap.size := HBC1.out.lt
  obtain ⟨W1, hW1⟩ : ∃ x, w1.alloc (Obj.cells #[Value.string ⟨#[]⟩, .string ⟨#[]⟩, .string ⟨#[]⟩, .string ⟨#[]⟩, .string ⟨#[]⟩, .string ⟨#[]⟩, .string ⟨#[]⟩] 48) = x := ⟨_, rfl⟩
  obtain ⟨D, hD⟩ : ∃ x, w1.heap.size = x := ⟨_, rfl⟩
  have HBD := Lib.hid (show Blk W1 D 48 (strs (List.replicate 7 ⟨#[]⟩)) from by rw [← hW1, ← hD]; exact Blk.new w1 48 _)
  have HG2 := Lib.hid (show w.grownBy W1 none from by rw [← hW1]; exact grown_alloc HG1.out _)
  have HBC2 := Lib.hid (show Blk W1 C 31 (reqC 0 ⟨#[]⟩ ⟨#[]⟩ ⟨#[]⟩ 0 0 ⟨#[]⟩) from by rw [← hW1]; exact HBC1.out.alloc _)
  have HCD := Lib.hid (show C < D ∧ w.heap.size ≤ C from ⟨by omega, by have := HCE.out; omega⟩)
  have HW1 := Lib.hid hW1
  have HDE := Lib.hid hD
  clear hg1 HCU HG HBC HG1 HBC1 hL hcl hW1 hD
  go_wp2_with (first
    | (rw [HW1.out, HDE.out]; refine wpList_store_blk rfl 48 _ _ rfl D (strs L) (strs (List.replicate 7 ⟨#[]⟩)) 48 HBD.out (by rw [strs_len, HLL.out]; exact info7) (by rw [strs_len, strs_len, HLL.out]; rfl) (strs_cell _) rfl rfl ?_; intro w2 hb2 hg2; have HBC3 := Lib.hid (HBC2.out.kept hg2.out (by have := HCD.out.1; simp; omega)))
    | (refine wpList_store_blk rfl 31 _ _ rfl C (reqC 0 ⟨#[]⟩ ⟨#[]⟩ ⟨#[]⟩ 0 0 ⟨#[]⟩) (reqC 0 ⟨#[]⟩ ⟨#[]⟩ ⟨#[]⟩ 0 0 ⟨#[]⟩) 31 HBC3.out infoReq rfl (reqC_one _ _ _ _ _ _ _) rfl rfl ?_; intro w3 hb3 hg3))
  exact ⟨rfl, _, results_blk Tryd.results11 _ _ C 31 _ _ _ hb3.out Tryd.underlying31 rfl infoReq rfl rfl, HRN.out, grown_into (grown_into HG2.out hg2.out (by have := HCD.out; omega)) hg3.out HCD.out.2⟩
end Go.Proofs.YtecekbhkombnnaaDoor
