/- FnExactReqWrite, walked. -/
import Derived.Test.YtecekbhkombnnaaDoorW4
namespace Go.Proofs.YtecekbhkombnnaaDoor
open Go.RowKit

theorem iwrite_yes (w : World) (hP : Pow w) (m : Nat) (tn us sp : ByteArray) (run num : Nat) (tx : ByteArray) (h1 : tn.size ≤ 1048576) (h2 : us.size ≤ 1048576) (h3 : sp.size ≤ 1048576) (h4 : tx.size ≤ 1048576) (hp : ReqP m tn us sp run num tx) :
    Calls Tryd.prog 31 #[.agg #[.int .i64 (m : Int), .string tn, .string us, .string sp, .int .i64 (run : Int), .int .i64 (num : Int), .string tx]] w fun e w' => e = .returned (.string (writeT m tn us sp run num tx)) ∧ w.grownBy w' none := by
  have hm : m = 1 ∨ m = 2 ∨ m = 3 ∨ m = 4 ∨ m = 5 ∨ m = 6 ∨ m = 7 ∨ m = 8 ∨ m = 9 ∨ m = 10 := by have h1 := hp.2.2.2.1.1; have h2 := hp.2.2.2.1.2; omega
  rcases hm with rfl | rfl | rfl | rfl | rfl | rfl | rfl | rfl | rfl | rfl
  · exact iwrite_1 w hP tn us sp run num tx h1 h2 h3 h4 hp
  · exact iwrite_2 w hP tn us sp run num tx h1 h2 h3 h4 hp
  · exact iwrite_3 w hP tn us sp run num tx h1 h2 h3 h4 hp
  · exact iwrite_4 w hP tn us sp run num tx h1 h2 h3 h4 hp
  · exact iwrite_5 w hP tn us sp run num tx h1 h2 h3 h4 hp
  · exact iwrite_6 w hP tn us sp run num tx h1 h2 h3 h4 hp
  · exact iwrite_7 w hP tn us sp run num tx h1 h2 h3 h4 hp
  · exact iwrite_8 w hP tn us sp run num tx h1 h2 h3 h4 hp
  · exact iwrite_9 w hP tn us sp run num tx h1 h2 h3 h4 hp
  · exact iwrite_10 w hP tn us sp run num tx h1 h2 h3 h4 hp

set_option maxRecDepth 100000 in
set_option maxHeartbeats 4000000 in
theorem iwrite_no (w : World) (kd : Int) (tn us sp : ByteArray) (run num : Int) (tx : ByteArray) (h1 : tn.size ≤ 1048576) (h2 : us.size ≤ 1048576) (h3 : sp.size ≤ 1048576) (h4 : tx.size ≤ 1048576) (hp : ¬ ReqP kd tn us sp run num tx) :
    Calls Tryd.prog 31 #[.agg #[.int .i64 kd, .string tn, .string us, .string sp, .int .i64 run, .int .i64 num, .string tx]] w fun e w' => e = .returned (.string ⟨#[]⟩) ∧ w.grownBy w' none := by
  have HG := Lib.hid (show w.grownBy (w.alloc (Obj.cells #[Value.int .i64 kd, .string tn, .string us, .string sp, .int .i64 run, .int .i64 num, .string tx] 31)) none from grown_alloc (grown_refl _ _) _)
  have HRQ := Lib.hid (fun V => (ireq_any V kd tn us sp run num tx h1 h2 h3 h4).mono (R' := fun e w' => e = .returned (.bool false) ∧ V.grownBy w' none) (fun e w' q => ⟨q.1.is_no hp, q.2⟩))
  clear hp
  go_enter Tryd.func31, Tryd.ntmps31
  go_wp2_with fail
  refine (HRQ.out _).mono ?_
  rintro e w1 ⟨rfl, hg1⟩
  have HG1 := Lib.hid (grown_trans HG.out hg1)
  clear hg1
  go_wp2
  go_ret
  exact ⟨rfl, HG1.out⟩
/-- both write the same text -/
theorem write_both (kd : Int) (tn us sp : ByteArray) (run num : Int) (tx : ByteArray) (h1 : tn.size ≤ 1048576) (h2 : us.size ≤ 1048576) (h3 : sp.size ≤ 1048576) (h4 : tx.size ≤ 1048576) :
    ∃ S : ByteArray, (∀ w : World, Calls Tryd.prog 26 #[.agg #[.int .i64 kd, .string tn, .string us, .string sp, .int .i64 run, .int .i64 num, .string tx]] w fun e w' => e = .returned (.string S) ∧ w.grownBy w' none) ∧ (∀ w : World, Pow w → Calls Tryd.prog 31 #[.agg #[.int .i64 kd, .string tn, .string us, .string sp, .int .i64 run, .int .i64 num, .string tx]] w fun e w' => e = .returned (.string S) ∧ w.grownBy w' none) := by
  by_cases hp : ReqP kd tn us sp run num tx
  · obtain ⟨m, rfl⟩ : ∃ m : Nat, kd = m := ⟨kd.toNat, by have := hp.2.2.2.1.1; omega⟩
    obtain ⟨r, rfl⟩ : ∃ m : Nat, run = m := ⟨run.toNat, by have := hp.2.2.2.2.1.1; omega⟩
    obtain ⟨n, rfl⟩ : ∃ m : Nat, num = m := ⟨num.toNat, by have := hp.2.2.2.2.2.1.1; omega⟩
    exact ⟨_, fun w => swrite_yes w m tn us sp r n tx h1 h2 h3 h4 hp, fun w hP => iwrite_yes w hP m tn us sp r n tx h1 h2 h3 h4 hp⟩
  · exact ⟨_, fun w => swrite_no w kd tn us sp run num tx h1 h2 h3 h4 hp, fun w _ => iwrite_no w kd tn us sp run num tx h1 h2 h3 h4 hp⟩

end Go.Proofs.YtecekbhkombnnaaDoor
