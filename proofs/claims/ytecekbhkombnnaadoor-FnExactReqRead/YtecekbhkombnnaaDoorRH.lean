/- FnExactReqRead, walked. -/
import Derived.Test.YtecekbhkombnnaaDoorRG
namespace Go.Proofs.YtecekbhkombnnaaDoor
open Go.RowKit

set_option maxRecDepth 100000 in
set_option maxHeartbeats 4000000 in
theorem eqReq_any (w : World) (kd : Int) (tn us sp : ByteArray) (run num : Int) (tx : ByteArray) :
    Calls Tryd.prog 12 #[.agg #[.int .i64 kd, .string tn, .string us, .string sp, .int .i64 run, .int .i64 num, .string tx], .agg #[.int .i64 kd, .string tn, .string us, .string sp, .int .i64 run, .int .i64 num, .string tx]] w fun e w' => e = .returned (.bool true) ∧ w.grownBy w' none := by
  go_enter Tryd.func12, Tryd.ntmps12
  go_wp2
  go_ret
  exact ⟨rfl, grown_alloc (grown_alloc (grown_refl _ _) _) _⟩

theorem rres_shape {text : ByteArray} {e : Ending} (h : RRes text e) : ∃ (kd : Int) (tn us sp : ByteArray) (run num : Int) (tx : ByteArray) (b : Bool), e = .returned (.tuple #[.agg (reqC kd tn us sp run num tx).toArray, .bool b]) := by
  rcases h with ⟨m, tn, us, sp, run, num, tx, -, -, rfl⟩ | ⟨-, rfl⟩
  · exact ⟨_, tn, us, sp, _, _, tx, true, rfl⟩
  · exact ⟨0, ⟨#[]⟩, ⟨#[]⟩, ⟨#[]⟩, 0, 0, ⟨#[]⟩, false, rfl⟩

set_option maxRecDepth 100000 in
set_option maxHeartbeats 8000000 in
theorem exactReqRead_walk (w : World) (hE : ErrC w) (hP : Pow w) (p : ByteArray) : Calls Tryd.prog 4 #[.string p] w fun e w' => e = .returned (.bool true) ∧ w.grownBy w' none := by
  by_cases hs : (1048576 : Int) < p.size
  · go_enter Tryd.func4, Tryd.ntmps4
    go_wp2
    go_ret
    exact ⟨rfl, grown_refl _ _⟩
  have hs2 : p.size ≤ 1048576 := by omega
  have HSP := Lib.hid (sread_any w p hs2)
  have HIP := Lib.hid (fun (V : World) (hV : w.grownBy V none) => show Calls Tryd.prog 11 #[.string p] V fun e w' => RRes p e ∧ V.grownBy w' none from by
    by_cases h6 : SixW 6 p
    · exact iread_yes V p hs2 h6 (hE.grown hV) (hP.grown hV)
    · exact iread_no V p hs2 h6)
  clear hE hP
  go_enter Tryd.func4, Tryd.ntmps4
  go_wp2_with fail
  refine HSP.out.mono ?_
  rintro e w1 ⟨hr1, hg1⟩
  obtain ⟨kd, tn, us, sp, run, num, tx, b, rfl⟩ := rres_shape hr1
  have HR1 := Lib.hid hr1
  have HG1 := Lib.hid hg1
  obtain ⟨L, hL⟩ : ∃ L, reqC kd tn us sp run num tx = L := ⟨_, rfl⟩
  have HL := Lib.hid (show L.length = 7 ∧ (∀ v ∈ L, v.oneCell' = true) from by rw [← hL]; exact ⟨rfl, reqC_one _ _ _ _ _ _ _⟩)
  have HEQ := Lib.hid (fun V => show Calls Tryd.prog 12 #[.agg L.toArray, .agg L.toArray] V fun e w' => e = .returned (.bool true) ∧ V.grownBy w' none from by rw [← hL]; exact eqReq_any V kd tn us sp run num tx)
  rw [hL] at HR1 ⊢
  obtain ⟨A, hA⟩ : ∃ x, w1.heap.size = x := ⟨_, rfl⟩
  obtain ⟨W1, hW1⟩ : ∃ x, w1.alloc (Obj.cells #[Value.int .i64 0, .string ⟨#[]⟩, .string ⟨#[]⟩, .string ⟨#[]⟩, .int .i64 0, .int .i64 0, .string ⟨#[]⟩] 31) = x := ⟨_, rfl⟩
  have HB1 := Lib.hid (show Blk W1 A 31 (reqC 0 ⟨#[]⟩ ⟨#[]⟩ ⟨#[]⟩ 0 0 ⟨#[]⟩) from by rw [← hW1, ← hA]; exact Blk.new w1 31 _)
  have HG1a := Lib.hid (show w.grownBy W1 none from by rw [← hW1]; exact grown_alloc HG1.out _)
  have HA := Lib.hid (show w.heap.size ≤ A from by rw [← hA]; exact HG1.out.size)
  have HAE := Lib.hid hA
  have HW1 := Lib.hid hW1
  clear hr1 hg1 HSP hL hA hW1 HG1
  go_wp2_with (first | (rw [HW1.out, HAE.out]; refine wpList_store_blk rfl 31 _ _ rfl A L (reqC 0 ⟨#[]⟩ ⟨#[]⟩ ⟨#[]⟩ 0 0 ⟨#[]⟩) 31 HB1.out (by rw [HL.out.1]; exact infoReq) (by rw [HL.out.1]; rfl) HL.out.2 rfl rfl ?_; intro w2 hb2 hg2; have HG2 := Lib.hid (grown_into HG1a.out hg2.out HA.out)))
  refine (HIP.out w2 HG2.out).mono ?_
  rintro e w3 ⟨hr3, hg3⟩
  obtain rfl := RRes.both HR1.out hr3
  have HG3 := Lib.hid (grown_trans HG2.out hg3)
  have HB3 := Lib.hid (hb2.out.kept hg3 (by simp))
  obtain ⟨C, hC⟩ : ∃ x, w3.heap.size = x := ⟨_, rfl⟩
  obtain ⟨W3, hW3⟩ : ∃ x, w3.alloc (Obj.cells #[Value.int .i64 0, .string ⟨#[]⟩, .string ⟨#[]⟩, .string ⟨#[]⟩, .int .i64 0, .int .i64 0, .string ⟨#[]⟩] 31) = x := ⟨_, rfl⟩
  have HCZ := Lib.hid (show Blk W3 C 31 (reqC 0 ⟨#[]⟩ ⟨#[]⟩ ⟨#[]⟩ 0 0 ⟨#[]⟩) from by rw [← hW3, ← hC]; exact Blk.new w3 31 _)
  have HB3a := Lib.hid (show Blk W3 A 31 L from by rw [← hW3]; exact HB3.out.alloc _)
  have HG3a := Lib.hid (show w.grownBy W3 none from by rw [← hW3]; exact grown_alloc HG3.out _)
  have HAC := Lib.hid (show A < C from by rw [← hC]; exact HB3.out.lt)
  have HCE := Lib.hid hC
  have HW3 := Lib.hid hW3
  clear hr3 hg3 HIP hC hW3 HG3 HB3 HR1 hb2 hg2 HG2 HB1 HG1a HW1 HAE
  go_wp2_with (first
    | (rw [HW3.out, HCE.out]; refine wpList_store_blk rfl 31 _ _ rfl C L (reqC 0 ⟨#[]⟩ ⟨#[]⟩ ⟨#[]⟩ 0 0 ⟨#[]⟩) 31 HCZ.out (by rw [HL.out.1]; exact infoReq) (by rw [HL.out.1]; rfl) HL.out.2 rfl rfl ?_; intro w4 hb4 hg4; have HG4 := Lib.hid (grown_into HG3a.out hg4.out (by have := HA.out; have := HAC.out; omega)); have HA4 := Lib.hid (HB3a.out.kept hg4.out (by have := HAC.out; simp; omega)))
    | (refine wpList_load_blk rfl 31 _ rfl C L 31 hb4.out _ Tryd.underlying31 rfl (by rw [HL.out.1]; exact infoReq) rfl ?_)
    | (refine wpList_load_blk rfl 31 _ rfl A L 31 HA4.out _ Tryd.underlying31 rfl (by rw [HL.out.1]; exact infoReq) rfl ?_))
  refine (HEQ.out w4).mono ?_
  rintro e w5 ⟨rfl, hg5⟩
  have HG5 := Lib.hid (grown_trans HG4.out hg5)
  clear hg5 HEQ
  cases b
  all_goals
    go_wp2
    go_ret
    exact ⟨rfl, HG5.out⟩
end Go.Proofs.YtecekbhkombnnaaDoor
