/- FnExactReqWrite, walked. -/
import Derived.Test.YtgidhfcnjboieaaDoorW4
namespace Go.Proofs.YtgidhfcnjboieaaDoor
open Go.RowKit

theorem iwrite_yes (w : World) (hP : Pow w) (m : Nat) (tn us sp : ByteArray) (run num : Nat) (tx : ByteArray) (h1 : tn.size ≤ 1048576) (h2 : us.size ≤ 1048576) (h3 : sp.size ≤ 1048576) (h4 : tx.size ≤ 1048576) (hp : ReqP m tn us sp run num tx) :
    Calls Tryd.prog 22 #[.agg #[.int .i64 (m : Int), .string tn, .string us, .string sp, .int .i64 (run : Int), .int .i64 (num : Int), .string tx]] w fun e w' => e = .returned (.string (writeT m tn us sp run num tx)) ∧ w.grownBy w' none := by
  have hm : m = 1 ∨ m = 2 ∨ m = 3 ∨ m = 4 ∨ m = 5 ∨ m = 6 ∨ m = 7 ∨ m = 8 ∨ m = 9 ∨ m = 10 := by have h1 := hp.2.2.2.1.1; have h2 := hp.2.2.2.1.2; omega
  rcases hm with rfl | rfl | rfl | rfl | rfl | rfl | rfl | rfl | rfl | rfl
  · exact iwrite_1 w hP tn us sp run num tx h1 h2 h3 h4 hp
  · exact iwrite_2 w hP tn us sp run num tx h1 h2 h3 h4 hp
  · exact iwrite_3 w hP tn us sp run num tx h1 h2 h3 h4 hp
  · exact iwrite_4 w hP tn us sp run num tx h1 h2 h3 h4 hp
  · exact iwrite_5 w hP tn us sp run num tx h1 h2 h3 h4 hp
  · exact iwrite_6 w hP tn us sp run num tx h1 h2 h3 h4 hp
  · exact iwrite_7 w hP tn us sp run num tx h1 h2 h3 h4 hp
  · exact iwrite_8 w hP tn us sp run num tx h1 h2 h3 h4 hp
  · exact iwrite_9 w hP tn us sp run num tx h1 h2 h3 h4 hp
  · exact iwrite_10 w hP tn us sp run num tx h1 h2 h3 h4 hp

set_option maxRecDepth 100000 in
set_option maxHeartbeats 4000000 in
theorem iwrite_no (w : World) (kd : Int) (tn us sp : ByteArray) (run num : Int) (tx : ByteArray) (h1 : tn.size ≤ 1048576) (h2 : us.size ≤ 1048576) (h3 : sp.size ≤ 1048576) (h4 : tx.size ≤ 1048576) (hp : ¬ ReqP kd tn us sp run num tx) :
    Calls Tryd.prog 22 #[.agg #[.int .i64 kd, .string tn, .string us, .string sp, .int .i64 run, .int .i64 num, .string tx]] w fun e w' => e = .returned (.string ⟨#[]⟩) ∧ w.grownBy w' none := by
  have HG := Lib.hid (show w.grownBy (w.alloc (Obj.cells #[Value.int .i64 kd, .string tn, .string us, .string sp, .int .i64 run, .int .i64 num, .string tx] 42)) none from grown_alloc (grown_refl _ _) _)
  have HRQ := Lib.hid (fun V => (ireq_any V kd tn us sp run num tx h1 h2 h3 h4).mono (R' := fun e w' => e = .returned (.bool false) ∧ V.grownBy w' none) (fun e w' q => ⟨q.1.is_no hp, q.2⟩))
  clear hp
  go_enter Tryd.func22, Tryd.ntmps22
  go_wp2_with fail
  refine (HRQ.out _).mono ?_
  rintro e w1 ⟨rfl, hg1⟩
  have HG1 := Lib.hid (grown_trans HG.out hg1)
  clear hg1
  go_wp2
  go_ret
  exact ⟨rfl, HG1.out⟩
/-- both write the same text -/
theorem write_both (kd : Int) (tn us sp : ByteArray) (run num : Int) (tx : ByteArray) (h1 : tn.size ≤ 1048576) (h2 : us.size ≤ 1048576) (h3 : sp.size ≤ 1048576) (h4 : tx.size ≤ 1048576) :
    ∃ S : ByteArray, (∀ w : World, Calls Tryd.prog 20 #[.agg #[.int .i64 kd, .string tn, .string us, .string sp, .int .i64 run, .int .i64 num, .string tx]] w fun e w' => e = .returned (.string S) ∧ w.grownBy w' none) ∧ (∀ w : World, Pow w → Calls Tryd.prog 22 #[.agg #[.int .i64 kd, .string tn, .string us, .string sp, .int .i64 run, .int .i64 num, .string tx]] w fun e w' => e = .returned (.string S) ∧ w.grownBy w' none) := by
  by_cases hp : ReqP kd tn us sp run num tx
  · obtain ⟨m, rfl⟩ : ∃ m : Nat, kd = m := ⟨kd.toNat, by have := hp.2.2.2.1.1; omega⟩
    obtain ⟨r, rfl⟩ : ∃ m : Nat, run = m := ⟨run.toNat, by have := hp.2.2.2.2.1.1; omega⟩
    obtain ⟨n, rfl⟩ : ∃ m : Nat, num = m := ⟨num.toNat, by have := hp.2.2.2.2.2.1.1; omega⟩
    exact ⟨_, fun w => swrite_yes w m tn us sp r n tx h1 h2 h3 h4 hp, fun w hP => iwrite_yes w hP m tn us sp r n tx h1 h2 h3 h4 hp⟩
  · exact ⟨_, fun w => swrite_no w kd tn us sp run num tx h1 h2 h3 h4 hp, fun w _ => iwrite_no w kd tn us sp run num tx h1 h2 h3 h4 hp⟩

set_option maxRecDepth 100000 in
set_option maxHeartbeats 2000000 in
theorem exactReqWrite_walk (w : World) (hP : Pow w) (kd : Int) (tn us sp : ByteArray) (run num : Int) (tx : ByteArray) (h1 : tn.size ≤ 9223372036854775807) (h2 : us.size ≤ 9223372036854775807) (h3 : sp.size ≤ 9223372036854775807) (h4 : tx.size ≤ 9223372036854775807) :
    Calls Tryd.prog 5 #[.agg #[.int .i64 kd, .string tn, .string us, .string sp, .int .i64 run, .int .i64 num, .string tx]] w fun e w' => e = .returned (.bool true) ∧ w.grownBy w' none := by
  have HGA := Lib.hid (show w.grownBy (w.alloc (Obj.cells #[Value.int .i64 kd, .string tn, .string us, .string sp, .int .i64 run, .int .i64 num, .string tx] 39)) none from grown_alloc (grown_refl _ _) _)
  have HBA := Lib.hid (Blk.new w 39 [Value.int .i64 kd, .string tn, .string us, .string sp, .int .i64 run, .int .i64 num, .string tx])
  have HS := Lib.hid (szReq_any (w.alloc (Obj.cells #[Value.int .i64 kd, .string tn, .string us, .string sp, .int .i64 run, .int .i64 num, .string tx] 39)) kd tn us sp run num tx h1 h2 h3 h4)
  have HTO := Lib.hid (fun W => toReq_any W kd tn us sp run num tx)
  go_enter Tryd.func5, Tryd.ntmps5
  go_wp2_with fail
  refine HS.out.mono ?_
  rintro e w1 ⟨r, rfl, hr, hg1⟩
  have HG1 := Lib.hid (grown_trans HGA.out hg1)
  have HB1 := Lib.hid (HBA.out.kept hg1 (by simp))
  clear hg1 HS HBA HGA
  rcases hr with hr | ⟨hr, k1, k2, k3, k4⟩
  · go_wp2
    go_ret
    exact ⟨rfl, HG1.out⟩
  have hr' : ¬ r < 0 := by omega
  obtain ⟨S, hsp, hip⟩ := write_both kd tn us sp run num tx k1 k2 k3 k4
  have HSP := Lib.hid hsp
  have HIP := Lib.hid hip
  have HPW := Lib.hid hP
  clear hsp hip hP
  have d0 : w1.cell? ⟨w.heap.size, 0, none⟩ = some (.int .i64 kd) := HB1.out.cell rfl
  have d1 : w1.cell? ⟨w.heap.size, 1, none⟩ = some (.string tn) := HB1.out.cell rfl
  have d2 : w1.cell? ⟨w.heap.size, 2, none⟩ = some (.string us) := HB1.out.cell rfl
  have d3 : w1.cell? ⟨w.heap.size, 3, none⟩ = some (.string sp) := HB1.out.cell rfl
  have d4 : w1.cell? ⟨w.heap.size, 4, none⟩ = some (.int .i64 run) := HB1.out.cell rfl
  have d5 : w1.cell? ⟨w.heap.size, 5, none⟩ = some (.int .i64 num) := HB1.out.cell rfl
  have d6 : w1.cell? ⟨w.heap.size, 6, none⟩ = some (.string tx) := HB1.out.cell rfl
  go_wp2_with fail
  refine (HTO.out w1).mono ?_
  rintro e w2 ⟨rfl, hg2⟩
  have HG2 := Lib.hid (grown_trans HG1.out hg2)
  have HB2 := Lib.hid (HB1.out.kept hg2 (by simp))
  have HRQ := Lib.hid (HSP.out w2)
  clear hg2 d0 d1 d2 d3 d4 d5 d6
  go_wp2_with fail
  refine HRQ.out.mono ?_
  rintro e w3 ⟨rfl, hg3⟩
  have HG3 := Lib.hid (grown_trans HG2.out hg3)
  have HB3 := Lib.hid (HB2.out.kept hg3 (by simp))
  clear hg3 HRQ
  have d0 : w3.cell? ⟨w.heap.size, 0, none⟩ = some (.int .i64 kd) := HB3.out.cell rfl
  have d1 : w3.cell? ⟨w.heap.size, 1, none⟩ = some (.string tn) := HB3.out.cell rfl
  have d2 : w3.cell? ⟨w.heap.size, 2, none⟩ = some (.string us) := HB3.out.cell rfl
  have d3 : w3.cell? ⟨w.heap.size, 3, none⟩ = some (.string sp) := HB3.out.cell rfl
  have d4 : w3.cell? ⟨w.heap.size, 4, none⟩ = some (.int .i64 run) := HB3.out.cell rfl
  have d5 : w3.cell? ⟨w.heap.size, 5, none⟩ = some (.int .i64 num) := HB3.out.cell rfl
  have d6 : w3.cell? ⟨w.heap.size, 6, none⟩ = some (.string tx) := HB3.out.cell rfl
  go_wp2_with fail
  refine (HTO.out w3).mono ?_
  rintro e w4 ⟨rfl, hg4⟩
  have HG4 := Lib.hid (grown_trans HG3.out hg4)
  have HIR := Lib.hid (HIP.out w4 (HPW.out.grown HG4.out))
  clear hg4 d0 d1 d2 d3 d4 d5 d6
  go_wp2_with fail
  refine HIR.out.mono ?_
  rintro e w5 ⟨rfl, hg5⟩
  have HG5 := Lib.hid (grown_trans HG4.out hg5)
  clear hg5 HIR
  go_wp2
  go_ret
  exact ⟨rfl, HG5.out⟩
end Go.Proofs.YtgidhfcnjboieaaDoor
