/- What was taken of a text, written again by both. -/
import Derived.Test.YtecekbhkombnnaaDoorRQ1
import Derived.Test.YtecekbhkombnnaaDoorW5
namespace Go.Proofs.YtecekbhkombnnaaDoor
open Go.RowKit

theorem stext_any (kd : Int) (tn us sp : ByteArray) (run num : Int) (tx : ByteArray) (h1 : tn.size ≤ 1048576) (h2 : us.size ≤ 1048576) (h3 : sp.size ≤ 1048576) (h4 : tx.size ≤ 1048576) :
    ∃ S : ByteArray, SText kd tn us sp run num tx S ∧ (∀ w : World, Calls Tryd.prog 26 #[.agg #[.int .i64 kd, .string tn, .string us, .string sp, .int .i64 run, .int .i64 num, .string tx]] w fun e w' => e = .returned (.string S) ∧ w.grownBy w' none) ∧ (∀ w : World, Pow w → Calls Tryd.prog 31 #[.agg #[.int .i64 kd, .string tn, .string us, .string sp, .int .i64 run, .int .i64 num, .string tx]] w fun e w' => e = .returned (.string S) ∧ w.grownBy w' none) := by
  by_cases hp : ReqP kd tn us sp run num tx
  · obtain ⟨m, rfl⟩ : ∃ m : Nat, kd = m := ⟨kd.toNat, by have := hp.2.2.2.1.1; omega⟩
    obtain ⟨r, rfl⟩ : ∃ m : Nat, run = m := ⟨run.toNat, by have := hp.2.2.2.2.1.1; omega⟩
    obtain ⟨n, rfl⟩ : ∃ m : Nat, num = m := ⟨num.toNat, by have := hp.2.2.2.2.2.1.1; omega⟩
    exact ⟨_, .inl ⟨m, r, n, rfl, rfl, rfl, hp, rfl⟩, fun w => swrite_yes w m tn us sp r n tx h1 h2 h3 h4 hp, fun w hP => iwrite_yes w hP m tn us sp r n tx h1 h2 h3 h4 hp⟩
  · exact ⟨_, .inr ⟨hp, rfl⟩, fun w => swrite_no w kd tn us sp run num tx h1 h2 h3 h4 hp, fun w _ => iwrite_no w kd tn us sp run num tx h1 h2 h3 h4 hp⟩
end Go.Proofs.YtecekbhkombnnaaDoor
