/- The program's look for what is unknown. -/
import Derived.Test.YtgmigloafcejdaaGreatDoorK9
namespace Go.Proofs.YtgmigloafcejdaaGreatDoor
open Go.RowKit

/-- where the first one is of which something does not hold -/
def Found (ks : List VT) (r : Int) : Prop := 0 ≤ r ↔ ¬ KnownK ks

end Go.Proofs.YtgmigloafcejdaaGreatDoor

namespace Go.Proofs.YtgmigloafcejdaaGreatDoor
open Go.RowKit

theorem leaf_none {s n : Int} {t : ByteArray} {ns : List ByteArray} {ks : List VT} {d : Nat} (h : Parts (.node s n t ns ks) d) (h5 : s ≠ 5) (h6 : s ≠ 6) : ks = [] := by
  rw [Parts] at h
  rcases h.1.2.2 with ⟨e, a, b⟩ | ⟨e, a, b⟩ | ⟨e, a, b⟩ | ⟨e, a, b, c⟩ | ⟨e, a, b⟩ | ⟨e, a, b, c, d⟩
  · exact List.eq_nil_of_length_eq_zero b
  · exact List.eq_nil_of_length_eq_zero b
  · exact List.eq_nil_of_length_eq_zero b
  · exact List.eq_nil_of_length_eq_zero b
  · exact absurd e h5
  · exact absurd e h6
theorem leaf_known {s n : Int} {t : ByteArray} {ns : List ByteArray} {ks : List VT} {d : Nat} (h : Parts (.node s n t ns ks) d) (h5 : s ≠ 5) (h6 : s ≠ 6) (h7 : s ≠ 7) : Known (.node s n t ns ks) := by
  rw [leaf_none h h5 h6, Known, KnownK]
  exact ⟨h7, trivial⟩
theorem parts_kids {s n : Int} {t : ByteArray} {ns : List ByteArray} {ks : List VT} {d : Nat} (h : Parts (.node s n t ns ks) d) : ∀ (j : Nat) (k : VT), ks[j]? = some k → Parts k (d + 1) := by
  rw [Parts, partsK_iff] at h
  exact h.2.2
theorem parts_len {s n : Int} {t : ByteArray} {ns : List ByteArray} {ks : List VT} {d : Nat} (h : Parts (.node s n t ns ks) d) : ks.length ≤ 5 := by
  rw [Parts] at h
  rcases h.1.2.2 with ⟨e, a, b⟩ | ⟨e, a, b⟩ | ⟨e, a, b⟩ | ⟨e, a, b, c⟩ | ⟨e, a, b⟩ | ⟨e, a, b, c, d⟩ <;> omega

theorem ta_79_65 (v : Value) (W : World) : (Instr.typeAssert (.iface 114 v) 56 146 true).run Tryz.prog W = .ok (.tuple #[.agg #[], .bool false]) W := by kernel_rfl
theorem ta_79_70 (v : Value) (W : World) : (Instr.typeAssert (.iface 114 v) 56 105 true).run Tryz.prog W = .ok (.tuple #[.agg #[.slice none 0 0], .bool false]) W := by kernel_rfl
theorem ta_79_73 (v : Value) (W : World) : (Instr.typeAssert (.iface 114 v) 56 108 true).run Tryz.prog W = .ok (.tuple #[.agg #[.slice none 0 0, .slice none 0 0], .bool false]) W := by kernel_rfl
theorem ta_80_65 (v : Value) (W : World) : (Instr.typeAssert (.iface 97 v) 56 146 true).run Tryz.prog W = .ok (.tuple #[.agg #[], .bool false]) W := by kernel_rfl
theorem ta_80_70 (v : Value) (W : World) : (Instr.typeAssert (.iface 97 v) 56 105 true).run Tryz.prog W = .ok (.tuple #[.agg #[.slice none 0 0], .bool false]) W := by kernel_rfl
theorem ta_80_73 (v : Value) (W : World) : (Instr.typeAssert (.iface 97 v) 56 108 true).run Tryz.prog W = .ok (.tuple #[.agg #[.slice none 0 0, .slice none 0 0], .bool false]) W := by kernel_rfl
theorem ta_82_65 (v : Value) (W : World) : (Instr.typeAssert (.iface 98 v) 56 146 true).run Tryz.prog W = .ok (.tuple #[.agg #[], .bool false]) W := by kernel_rfl
theorem ta_82_70 (v : Value) (W : World) : (Instr.typeAssert (.iface 98 v) 56 105 true).run Tryz.prog W = .ok (.tuple #[.agg #[.slice none 0 0], .bool false]) W := by kernel_rfl
theorem ta_82_73 (v : Value) (W : World) : (Instr.typeAssert (.iface 98 v) 56 108 true).run Tryz.prog W = .ok (.tuple #[.agg #[.slice none 0 0, .slice none 0 0], .bool false]) W := by kernel_rfl
theorem ta_84_65 (v : Value) (W : World) : (Instr.typeAssert (.iface 99 v) 56 146 true).run Tryz.prog W = .ok (.tuple #[.agg #[], .bool false]) W := by kernel_rfl
theorem ta_84_70 (v : Value) (W : World) : (Instr.typeAssert (.iface 99 v) 56 105 true).run Tryz.prog W = .ok (.tuple #[.agg #[.slice none 0 0], .bool false]) W := by kernel_rfl
theorem ta_84_73 (v : Value) (W : World) : (Instr.typeAssert (.iface 99 v) 56 108 true).run Tryz.prog W = .ok (.tuple #[.agg #[.slice none 0 0, .slice none 0 0], .bool false]) W := by kernel_rfl
theorem ta_65_65 (v : Value) (W : World) : (Instr.typeAssert (.iface 146 v) 56 146 true).run Tryz.prog W = .ok (.tuple #[v, .bool true]) W := by kernel_rfl
theorem ta_70_65 (v : Value) (W : World) : (Instr.typeAssert (.iface 105 v) 56 146 true).run Tryz.prog W = .ok (.tuple #[.agg #[], .bool false]) W := by kernel_rfl
theorem ta_70_70 (v : Value) (W : World) : (Instr.typeAssert (.iface 105 v) 56 105 true).run Tryz.prog W = .ok (.tuple #[v, .bool true]) W := by kernel_rfl
theorem ta_73_65 (v : Value) (W : World) : (Instr.typeAssert (.iface 108 v) 56 146 true).run Tryz.prog W = .ok (.tuple #[.agg #[], .bool false]) W := by kernel_rfl
theorem ta_73_70 (v : Value) (W : World) : (Instr.typeAssert (.iface 108 v) 56 105 true).run Tryz.prog W = .ok (.tuple #[.agg #[.slice none 0 0], .bool false]) W := by kernel_rfl
theorem ta_73_73 (v : Value) (W : World) : (Instr.typeAssert (.iface 108 v) 56 108 true).run Tryz.prog W = .ok (.tuple #[v, .bool true]) W := by kernel_rfl

/-- a value that is ok and known whole -/
def KnownT (T : VT) : Prop := OkT T ∧ Known T

end Go.Proofs.YtgmigloafcejdaaGreatDoor
