/- Values as trees, and how they lie in memory. No program is named here. -/
import Derived.Test.YtgmigloafcejdaaGreatDoorH0
namespace Go.Proofs.YtgmigloafcejdaaGreatDoor
open Go.RowKit

/-- a value: its sort, number, text, names, and what is in it -/
inductive VT where
  | node (sort num : Int) (text : ByteArray) (names : List ByteArray) (kids : List VT) : VT

/-- a list of texts lies behind an address, in a block from base on -/
def Lies (w : World) (base : Nat) (ao : Option Addr) (ss : List ByteArray) : Prop := ss.length = 0 ∨ ∃ ab o, ao = some ⟨ab, o, none⟩ ∧ base ≤ ab ∧ ∀ j, j < ss.length → w.cell? ⟨ab, o + j, none⟩ = some (.string (ss.getD j ByteArray.empty))
theorem Lies.kept {w w' : World} {base : Nat} {ao : Option Addr} {ss : List ByteArray} {row : Option Nat} (h : Lies w base ao ss) (hg : w.grownBy w' row) (hr : ∀ q, row = some q → q < base) : Lies w' base ao ss := by
  rcases h with h | ⟨ab, o, rfl, hb, h⟩
  · exact .inl h
  · exact .inr ⟨ab, o, rfl, hb, fun j hj => hg.cell (h j hj) (fun e => by have := hr ab e.symm; omega)⟩
theorem Lies.base {w : World} {base b' : Nat} {ao : Option Addr} {ss : List ByteArray} (h : Lies w base ao ss) (hb : b' ≤ base) : Lies w b' ao ss := by
  rcases h with h | ⟨ab, o, rfl, hb2, h⟩
  · exact .inl h
  · exact .inr ⟨ab, o, rfl, by omega, h⟩

/-- five cells at a place -/
def Five (w : World) (b o : Nat) (cs : List Value) : Prop := ∃ c0 c1 c2 c3 c4, cs = [c0, c1, c2, c3, c4] ∧ w.cell? ⟨b, o, none⟩ = some c0 ∧ w.cell? ⟨b, o + 1, none⟩ = some c1 ∧ w.cell? ⟨b, o + 2, none⟩ = some c2 ∧ w.cell? ⟨b, o + 3, none⟩ = some c3 ∧ w.cell? ⟨b, o + 4, none⟩ = some c4
theorem Five.kept {w w' : World} {b o : Nat} {cs : List Value} {row : Option Nat} (h : Five w b o cs) (hg : w.grownBy w' row) (hr : some b ≠ row) : Five w' b o cs := by
  obtain ⟨c0, c1, c2, c3, c4, e, h0, h1, h2, h3, h4⟩ := h
  exact ⟨c0, c1, c2, c3, c4, e, hg.cell h0 hr, hg.cell h1 hr, hg.cell h2 hr, hg.cell h3 hr, hg.cell h4 hr⟩

/-- the cells of a value; all that is behind them lies in blocks from base on -/
inductive VIn (w : World) (base : Nat) : VT → List Value → Prop where
  | mk {s n : Int} {t : ByteArray} {ns : List ByteArray} {ks : List VT} {an ak : Option Addr} {cn ck : Nat} (CS : Nat → List Value)
    (hn : Lies w base an ns) (hp : ks.length = 0 ∨ ∃ b o, ak = some ⟨b, o, none⟩ ∧ base ≤ b ∧ ∀ j, j < ks.length → Five w b (o + j * 5) (CS j))
    (hk : ∀ j k, ks[j]? = some k → VIn w base k (CS j)) (hcn : ns.length ≤ cn) (hck : ks.length ≤ ck) (ht : t.size ≤ 9223372036854775807) (hcl : ns.length ≤ 9223372036854775807) (hkl : ks.length ≤ 9223372036854775807) (hsl : ∀ s ∈ ns, s.size ≤ 9223372036854775807)
    (hs1 : -9223372036854775808 ≤ s) (hs2 : s ≤ 9223372036854775807) (hn1 : -9223372036854775808 ≤ n) (hn2 : n ≤ 9223372036854775807) :
    VIn w base (.node s n t ns ks) [.int .i64 s, .int .i64 n, .string t, .slice an ns.length cn, .slice ak ks.length ck]

theorem VIn.kept {w w' : World} {base : Nat} {T : VT} {cs : List Value} {row : Option Nat} (h : VIn w base T cs) (hg : w.grownBy w' row) (hr : ∀ q, row = some q → q < base) : VIn w' base T cs := by
  induction h with
  | mk CS hn hp hk hcn hck ht hcl hkl hsl hs1 hs2 hn1 hn2 ih =>
    refine .mk CS (hn.kept hg hr) ?_ ih hcn hck ht hcl hkl hsl hs1 hs2 hn1 hn2
    rcases hp with h | ⟨b, o, rfl, hb, h⟩
    · exact .inl h
    · exact .inr ⟨b, o, rfl, hb, fun j hj => (h j hj).kept hg (fun e => by have := hr b e.symm; omega)⟩
theorem VIn.grown {w w' : World} {base : Nat} {T : VT} {cs : List Value} (h : VIn w base T cs) (hg : w.grownBy w' none) : VIn w' base T cs := h.kept hg (fun q e => by cases e)
theorem VIn.base {w : World} {base b' : Nat} {T : VT} {cs : List Value} (h : VIn w base T cs) (hb : b' ≤ base) : VIn w b' T cs := by
  induction h with
  | mk CS hn hp hk hcn hck ht hcl hkl hsl hs1 hs2 hn1 hn2 ih =>
    refine .mk CS (hn.base hb) ?_ ih hcn hck ht hcl hkl hsl hs1 hs2 hn1 hn2
    rcases hp with h | ⟨b, o, rfl, hb2, h⟩
    · exact .inl h
    · exact .inr ⟨b, o, rfl, by omega, h⟩
theorem VIn.five {w : World} {base : Nat} {T : VT} {cs : List Value} (h : VIn w base T cs) : ∃ c0 c1 c2 c3 c4, cs = [c0, c1, c2, c3, c4] ∧ ∀ v ∈ cs, v.oneCell' = true := by
  cases h with
  | mk CS => exact ⟨_, _, _, _, _, rfl, fun v hv => by simp at hv; rcases hv with rfl | rfl | rfl | rfl | rfl <;> rfl⟩

/-- how much a list of texts is -/
def bulkS : List ByteArray → Nat
  | [] => 0
  | s :: ss => s.size + bulkS ss
mutual
/-- how much a value is: its texts, names and parts -/
def bulk : VT → Nat
  | .node _ _ t ns ks => t.size + (ns.length + bulkS ns) + (ks.length + bulkK ks)
def bulkK : List VT → Nat
  | [] => 0
  | k :: ks => bulk k + bulkK ks
end
theorem bulkS_take (ss : List ByteArray) : ∀ j (h : j < ss.length), bulkS (ss.take (j + 1)) = bulkS (ss.take j) + (ss[j]).size := by
  induction ss with
  | nil => intro j h; simp at h
  | cons s ss ih =>
    intro j h
    cases j with
    | zero => simp [bulkS]
    | succ j => simp [bulkS, ih j (by simpa using h), Nat.add_assoc]
theorem bulkK_take (ks : List VT) : ∀ j (h : j < ks.length), bulkK (ks.take (j + 1)) = bulkK (ks.take j) + bulk ks[j] := by
  induction ks with
  | nil => intro j h; simp at h
  | cons s ss ih =>
    intro j h
    cases j with
    | zero => simp [bulkK]
    | succ j => simp [bulkK, ih j (by simpa using h), Nat.add_assoc]
theorem bulkS_le (ss : List ByteArray) (j : Nat) : bulkS (ss.take j) ≤ bulkS ss := by
  induction ss generalizing j with
  | nil => simp [bulkS]
  | cons s ss ih =>
    cases j with
    | zero => simp [bulkS]
    | succ j => simp [bulkS]; exact ih j
theorem bulkK_le (ss : List VT) (j : Nat) : bulkK (ss.take j) ≤ bulkK ss := by
  induction ss generalizing j with
  | nil => simp [bulkK]
  | cons s ss ih =>
    cases j with
    | zero => simp [bulkK]
    | succ j => simp [bulkK]; exact ih j
end Go.Proofs.YtgmigloafcejdaaGreatDoor
