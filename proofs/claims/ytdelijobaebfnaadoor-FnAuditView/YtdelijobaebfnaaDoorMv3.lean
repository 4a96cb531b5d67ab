/- A slice of bytes that came in. -/
import Derived.Test.YtdelijobaebfnaaDoorXD1
import Derived.ProofKit
import Derived.OpenShut
import Derived.OpenVars
import Derived.Carry
import Derived.ChangeSlices
namespace Go.Proofs.YtdelijobaebfnaaDoor
open Go.RowKit

/-- the bytes that came in, as a law reads them -/
def Came (w : World) (ao : Option Addr) (n : Nat) : Prop := n = 0 ∨ ∃ ab o, ao = some ⟨ab, o, none⟩ ∧ ∀ j, j < n → ∃ x : Int, 0 ≤ x ∧ x < 256 ∧ w.cell? ⟨ab, o + j, none⟩ = some (.int .u8 x)
theorem Came.kept {w w' : World} {ao : Option Addr} {n : Nat} (h : Came w ao n) (hg : w.grownBy w' none) : Came w' ao n := by
  rcases h with h | ⟨ab, o, rfl, h⟩
  · exact .inl h
  · refine .inr ⟨ab, o, rfl, fun j hj => ?_⟩
    obtain ⟨x, h0, h1, hx⟩ := h j hj
    exact ⟨x, h0, h1, hg.cell hx (by simp)⟩
theorem Rd.kept {w w' : World} {rb : Nat} {ao : Option Addr} {n cap p : Nat} (h : Rd w rb ao n cap p) (hg : w.grownBy w' none) : Rd w' rb ao n cap p :=
  ⟨h.1.kept hg (by simp), h.2.kept hg (fun k hk => by cases hk)⟩
theorem Rd.lt {w : World} {rb : Nat} {ao : Option Addr} {n cap p : Nat} (h : Rd w rb ao n cap p) : rb < w.heap.size := h.1.lt

def four : List ByteArray := [⟨#[97]⟩, ⟨#[97, 98, 99]⟩, ⟨#[0]⟩, ⟨#[120, 121, 122]⟩]
theorem four_size : ∀ j, j < four.length → (four.getD j ByteArray.empty).size ≤ 3 := by decide
theorem four_cell (w : World) : ∀ j, j < four.length → (w.alloc (.cells #[.string ⟨#[97]⟩, .string ⟨#[97, 98, 99]⟩, .string ⟨#[0]⟩, .string ⟨#[120, 121, 122]⟩] 9)).cell? ⟨w.heap.size, j, none⟩ = some (.string (four.getD j ByteArray.empty)) := fun j hj => by
  have hb := Blk.new w 9 [.string ⟨#[97]⟩, .string ⟨#[97, 98, 99]⟩, .string ⟨#[0]⟩, .string ⟨#[120, 121, 122]⟩]
  have hj' : j < 4 := hj
  obtain rfl | rfl | rfl | rfl : j = 0 ∨ j = 1 ∨ j = 2 ∨ j = 3 := by omega
  all_goals exact hb.cell rfl

end Go.Proofs.YtdelijobaebfnaaDoor
namespace Go.Proofs.YtdelijobaebfnaaDoor
open Go.ChangeShapes Go.WideShapes Go.ChangeAt Go.RowKit
open Go.ChangeMaps (open_string shut_string)

theorem cellsU8 : Tryd.prog.cellsOf 5 = 1 := by kernel_rfl
/-- a slice of bytes that came in -/
theorem came_of {H : Type} {enc : TypeId × Value → H} {W : World} {ao : Option Addr} {n cap : Nat} {d : DataW H} {p : List MemPlace} (h : DataW.Trod enc Tryd.prog W 0 (fun _ => true) true 22 (.slice ao n cap) d p) : n ≤ cap ∧ Came W ao n := by
  obtain ⟨fuel, hf⟩ := h
  rcases open_ints Tryd.underlying22 Tryd.underlying5 cellsU8 hf with ⟨hcs, _⟩ | ⟨a, len, cap', zs, hcs, _, hl, hm, hz, _, hcell, hwz⟩
  · simp [Value.cells] at hcs
    obtain ⟨rfl, rfl, rfl⟩ := hcs
    exact ⟨Nat.le_refl _, .inl rfl⟩
  · simp [Value.cells] at hcs
    obtain ⟨rfl, rfl, rfl⟩ := hcs
    simp only [if_true] at hz
    refine ⟨hl, ?_⟩
    by_cases h0 : n = 0
    · exact .inl h0
    obtain ⟨ab, o, spot⟩ := a
    have hspot : spot = none := by simpa [Addr.add] using World.cell?_spot (hcell 0 (by omega))
    subst hspot
    refine .inr ⟨ab, o, rfl, fun j hj => ⟨zs.getD j 0, ?_, ?_, ?_⟩⟩
    · exact (range_u8 hwz j).1
    · rw [List.getD_eq_getElem?_getD]; have := (range_u8 hwz j).2; omega
    · have := hcell j (by omega)
      rwa [Addr.add_lit] at this
end Go.Proofs.YtdelijobaebfnaaDoor
