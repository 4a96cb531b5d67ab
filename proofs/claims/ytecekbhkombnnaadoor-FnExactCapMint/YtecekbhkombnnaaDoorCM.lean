/- Limits, by both. -/
import Derived.Test.YtecekbhkombnnaaDoorCL
namespace Go.Proofs.YtecekbhkombnnaaDoor
open Go.RowKit

/-- until a tick -/
def LimU (l : ByteArray) (n : Int) : Prop := (headB 32 l).toList = [117, 110, 116, 105, 108] ∧ restB 32 l = decI n ∧ 0 ≤ n ∧ n ≤ 999999
/-- only a thing -/
def LimO (l : ByteArray) : Prop := (headB 32 l).toList = [111, 110, 108, 121] ∧ IdP (restB 32 l)
def LimP (l : ByteArray) : Prop := (∃ n, LimU l n) ∨ LimO l
def LimE (e : Ending) (l : ByteArray) : Prop := ∃ r : Int, e = .returned (.int .i64 r) ∧ ((r = 1 ∧ ∃ n, LimU l n) ∨ (r = 2 ∧ LimO l) ∨ (r = 0 ∧ ¬ LimP l))
theorem LimE.one {l : ByteArray} {n : Int} (h : LimU l n) : LimE (.returned (.int .i64 1)) l := ⟨1, rfl, .inl ⟨rfl, n, h⟩⟩
theorem LimE.two {l : ByteArray} (h : LimO l) : LimE (.returned (.int .i64 2)) l := ⟨2, rfl, .inr (.inl ⟨rfl, h⟩)⟩
theorem LimE.none {l : ByteArray} (h : ¬ LimP l) : LimE (.returned (.int .i64 0)) l := ⟨0, rfl, .inr (.inr ⟨rfl, h⟩)⟩
theorem lim_apart {l : ByteArray} {n : Int} (h1 : LimU l n) (h2 : LimO l) : False := by
  have h := h1.1.symm.trans h2.1
  exact absurd h (by decide)
theorem LimU.same {l : ByteArray} {n m : Int} (h1 : LimU l n) (h2 : LimU l m) : n = m :=
  decI_inj (by have := h1.2.2.1; omega) (by have := h1.2.2.2; omega) (by have := h2.2.2.1; omega) (by have := h2.2.2.2; omega) (h1.2.1.symm.trans h2.2.1)

end Go.Proofs.YtecekbhkombnnaaDoor
