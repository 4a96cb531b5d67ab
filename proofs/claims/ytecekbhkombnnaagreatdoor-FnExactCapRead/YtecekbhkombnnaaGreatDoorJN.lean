/- Texts joined by blanks: strings.Join off the shelf. -/
import Derived.Test.YtecekbhkombnnaaGreatDoorP3
import Derived.Shelf.Strings.OnBuilder
import Derived.Lib.Join
namespace Go.Proofs.YtecekbhkombnnaaGreatDoor
open Go.RowKit

shelf_lay Lays.n156 Nm 156 at Tryz as Tryz.laysJoin
theorem Tryz.extra : Builder.Extra Tryz.prog Tryz.laysJoin_ren where
  sizeBuilder := by kernel_rfl
  liesBuilder := by kernel_rfl
  t5 := by kernel_rfl
  a5 := fun w => by kernel_rfl
  z5 := fun w => by kernel_rfl
  v5 := fun w => by kernel_rfl
  infoByte := by kernel_rfl
  cellsByte := by kernel_rfl
  sizeByte := by kernel_rfl
  neB5 := by decide
/-- texts, a blank between each two -/
def joinT (xs : List ByteArray) : ByteArray := ⟨(Lib.join (xs.map (·.data.toList)) [32]).toArray⟩
theorem join_row (w : World) (base : Nat) (v : Value) (xs : List ByteArray) (hr : Row w base v (strs xs)) (hne : xs ≠ []) (hN : xs.length ≤ 1048576) (hlen : (Lib.join (xs.map (·.data.toList)) [32]).length ≤ 140737488355328) :
    Calls Tryz.prog 70 #[v, .string ⟨#[32]⟩] w fun e w' => e = .returned (.string (joinT xs)) ∧ w.grownBy w' none := by
  rcases hr with ⟨-, h⟩ | ⟨g, cap, rfl, -, hl, hcap, hc, -⟩
  · cases xs with
    | nil => exact absurd rfl hne
    | cons a b => simp [strs] at h
  · rw [strs_len] at hcap hc ⊢
    refine (Any.strings_Join Tryz.laysJoin Tryz.extra g 0 cap xs ⟨#[32]⟩ w (fun j x hj => by
      have hj1 := (List.getElem?_eq_some_iff.1 hj).1
      rw [Nat.zero_add, hc j hj1]
      simp [strs, hj]) hl (by omega) hcap (by simpa using hlen)).mono ?_
    rintro e w' ⟨rfl, hb⟩
    exact ⟨rfl, grown_of_below hb none⟩

end Go.Proofs.YtecekbhkombnnaaGreatDoor
