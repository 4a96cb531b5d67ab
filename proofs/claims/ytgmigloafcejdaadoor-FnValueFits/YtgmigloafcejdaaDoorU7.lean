/- The document's values: all parts. -/
import Derived.Test.YtgmigloafcejdaaDoorU6
import Derived.Test.YtgmigloafcejdaaDoorU4
namespace Go.Proofs.YtgmigloafcejdaaDoor
open Go.RowKit

theorem plain_any (W : World) (base : Nat) (s n : Int) (t : ByteArray) (ns : List ByteArray) (nk : Nat) (an ak : Option Addr) (cn ck : Nat) (hl : Lies W base an ns) (hnl : ns.length ≤ 1048576) (hsl : ∀ s ∈ ns, s.size ≤ 1048576) (ht : t.size ≤ 1048576) (hnk : nk ≤ 1048576) :
    Calls Tryd.prog 49 #[.agg #[.int .i64 s, .int .i64 n, .string t, .slice an ns.length cn, .slice ak nk ck]] W fun e w' => Says e (Plain s n t ns nk) ∧ W.grownBy w' none := by
  by_cases hs : 1 ≤ s ∧ s ≤ 7
  · have : s = 1 ∨ s = 2 ∨ s = 3 ∨ s = 4 ∨ s = 5 ∨ s = 6 ∨ s = 7 := by omega
    rcases this with rfl | rfl | rfl | rfl | rfl | rfl | rfl
    · exact plain_1 W n t ns nk an ak cn ck hnl
    · exact plain_2 W n t ns nk an ak cn ck hnl
    · exact plain_3 W n t ns nk an ak cn ck hnl
    · exact plain_4 W n t ns nk an ak cn ck hnl ht
    · exact plain_5 W n t ns nk an ak cn ck hnl hnk
    · exact plain_6 W base n t ns nk an ak cn ck hl hnl hsl
    · exact plain_7 W n t ns nk an ak cn ck hnl
  · exact plain_x W s n t ns nk an ak cn ck hnl hs

mutual
/-- all parts are ok, and none is too deep -/
def Parts : VT → Nat → Prop
  | .node s n t ns ks, d => Plain s n t ns ks.length ∧ d ≤ 3 ∧ PartsK ks (d + 1)
def PartsK : List VT → Nat → Prop
  | [], _ => True
  | k :: ks, d => Parts k d ∧ PartsK ks d
end
theorem partsK_iff (ks : List VT) (d : Nat) : PartsK ks d ↔ ∀ (j : Nat) (k : VT), ks[j]? = some k → Parts k d := by
  induction ks with
  | nil => simp [PartsK]
  | cons a ks ih =>
    rw [PartsK, ih]
    constructor
    · rintro ⟨h1, h2⟩ j k hj
      cases j with
      | zero => simp at hj; subst hj; exact h1
      | succ j => exact h2 j k (by simpa using hj)
    · intro h
      exact ⟨h 0 a rfl, fun j k hj => h (j + 1) k (by simpa using hj)⟩
theorem bulkS_mem {ss : List ByteArray} {s : ByteArray} (h : s ∈ ss) : s.size ≤ bulkS ss := by
  induction ss with
  | nil => cases h
  | cons a ss ih =>
    rw [bulkS]
    rcases List.mem_cons.1 h with rfl | h
    · omega
    · have := ih h; omega
end Go.Proofs.YtgmigloafcejdaaDoor
