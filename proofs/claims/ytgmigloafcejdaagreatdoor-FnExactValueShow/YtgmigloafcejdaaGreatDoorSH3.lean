/- What the program writes with: numbers, bools, lists of texts, off the library's shelf. -/
import Derived.Test.YtgmigloafcejdaaGreatDoorSH2
import Derived.Lib.AppendIntMem
namespace Go.Proofs.YtgmigloafcejdaaGreatDoor
open Go.RowKit

shelf_lay LaysM.n171 Nm 171 at Tryz as Tryz.laysItoa
shelf_lay Lays.n121 Nm 121 at Tryz as Tryz.laysBool
shelf_lay Lays.n156 Nm 156 at Tryz as Tryz.laysJoin
theorem Tryz.extra : Builder.Extra Tryz.prog Tryz.laysJoin_ren where
  sizeBuilder := by kernel_rfl
  liesBuilder := by kernel_rfl
  t5 := by kernel_rfl
  a5 := fun w => by kernel_rfl
  z5 := fun w => by kernel_rfl
  v5 := fun w => by kernel_rfl
  infoByte := by kernel_rfl
  cellsByte := by kernel_rfl
  sizeByte := by kernel_rfl
  neB5 := by decide

theorem itoa_any (w : World) (n : Int) (h0 : -999999 ≤ n) (h1 : n ≤ 999999) (htab : Lib.TabIs Tryz.prog w "internal/strconv.uint64pow10" .u64 Lib.pow10Tab) :
    Calls Tryz.prog 69 #[.int .i64 n] w fun e w' => e = .returned (.string (decI n)) ∧ w.grownBy w' none := by
  refine (Any.strconv_Itoa Tryz.laysItoa n (by omega) (by omega) w htab).mono ?_
  rintro e w' ⟨rfl, k, os, rfl⟩
  refine ⟨rfl, ?_⟩
  exact grown_of_below (Lib.below_grow w.heap.size w (Nat.le_refl _) k os) none
theorem bool_any (w : World) (b : Bool) : Calls Tryz.prog 68 #[.bool b] w fun e w' => e = .returned (.string (if b then ⟨#[116, 114, 117, 101]⟩ else ⟨#[102, 97, 108, 115, 101]⟩)) ∧ w' = w := by
  refine (Any.strconv_FormatBool Tryz.laysBool b w).mono ?_
  rintro e w' ⟨rfl, rfl⟩
  refine ⟨?_, rfl⟩
  cases b <;> kernel_rfl
theorem join_any (w : World) (bk o c : Nat) (xs : List ByteArray) (hcells : ∀ (j : Nat) x, xs[j]? = some x → w.cell? ⟨bk, o + j, none⟩ = some (.string x)) (hbk : bk < w.heap.size) (hN : xs.length ≤ 1048576) (hcap : xs.length ≤ c) (hlen : (Lib.join (xs.map (·.data.toList)) [44]).length ≤ 1000000000) :
    Calls Tryz.prog 70 #[.slice (some ⟨bk, o, none⟩) xs.length c, .string ⟨#[44]⟩] w fun e w' => e = .returned (.string ⟨(Lib.join (xs.map (·.data.toList)) [44]).toArray⟩) ∧ w.grownBy w' none := by
  refine (Any.strings_Join Tryz.laysJoin Tryz.extra bk o c xs ⟨#[44]⟩ w hcells hbk (by omega) hcap (by simpa using (by omega : (Lib.join (xs.map (·.data.toList)) [44]).length ≤ 140737488355328))).mono ?_
  rintro e w' ⟨rfl, hb⟩
  exact ⟨rfl, grown_of_below hb none⟩
theorem join_none (w : World) (a : Option Addr) (c : Nat) : Calls Tryz.prog 70 #[.slice a 0 c, .string ⟨#[44]⟩] w fun e w' => e = .returned (.string ⟨#[]⟩) ∧ w' = w :=
  Any.strings_Join_none Tryz.laysJoin Tryz.extra a c ⟨#[44]⟩ w
end Go.Proofs.YtgmigloafcejdaaGreatDoor
