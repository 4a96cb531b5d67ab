/- Entries of an audit: how they lie, and how much they are. -/
import Derived.Test.YtfdhopkjblbkmaaDoorM1
namespace Go.Proofs.YtfdhopkjblbkmaaDoor
open Go.RowKit

/-- an entry: its number, whose, what, its detail, its sum -/
structure AE where
  seq : Int
  ten : ByteArray
  wha : ByteArray
  det : ByteArray
  sum : ByteArray

/-- an entry's five cells at a place -/
def Ent (w : World) (b o : Nat) (e : AE) : Prop := w.cell? ⟨b, o, none⟩ = some (.int .i64 e.seq) ∧ w.cell? ⟨b, o + 1, none⟩ = some (.string e.ten) ∧ w.cell? ⟨b, o + 2, none⟩ = some (.string e.wha) ∧ w.cell? ⟨b, o + 3, none⟩ = some (.string e.det) ∧ w.cell? ⟨b, o + 4, none⟩ = some (.string e.sum)
theorem Ent.kept {w w' : World} {b o : Nat} {e : AE} {row : Option Nat} (h : Ent w b o e) (hg : w.grownBy w' row) (hb : some b ≠ row) : Ent w' b o e :=
  ⟨hg.cell h.1 hb, hg.cell h.2.1 hb, hg.cell h.2.2.1 hb, hg.cell h.2.2.2.1 hb, hg.cell h.2.2.2.2 hb⟩
/-- a list of entries lies behind an address, in a block from base on -/
def ELies (w : World) (base : Nat) (ao : Option Addr) (es : List AE) : Prop := es.length = 0 ∨ ∃ ab o, ao = some ⟨ab, o, none⟩ ∧ base ≤ ab ∧ ∀ j (h : j < es.length), Ent w ab (o + j * 5) es[j]
theorem ELies.kept {w w' : World} {base : Nat} {ao : Option Addr} {es : List AE} {row : Option Nat} (h : ELies w base ao es) (hg : w.grownBy w' row) (hr : ∀ q, row = some q → q < base) : ELies w' base ao es := by
  rcases h with h | ⟨ab, o, rfl, hb, h⟩
  · exact .inl h
  · exact .inr ⟨ab, o, rfl, hb, fun j hj => (h j hj).kept hg (fun e => by have := hr ab e.symm; omega)⟩
theorem ELies.grown {w w' : World} {base : Nat} {ao : Option Addr} {es : List AE} (h : ELies w base ao es) (hg : w.grownBy w' none) : ELies w' base ao es := h.kept hg (fun q e => by cases e)

/-- how much an entry is, and entries -/
def eB (e : AE) : Nat := e.ten.size + (e.wha.size + (e.det.size + e.sum.size))
def bulkE : List AE → Nat
  | [] => 0
  | u :: us => eB u + bulkE us
theorem bulkE_take (us : List AE) : ∀ j (h : j < us.length), bulkE (us.take (j + 1)) = bulkE (us.take j) + eB us[j] := by
  induction us with
  | nil => intro j h; simp at h
  | cons s ss ih =>
    intro j h
    cases j with
    | zero => simp [bulkE]
    | succ j => simp [bulkE, ih j (by simpa using h), Nat.add_assoc]
theorem bulkE_le (us : List AE) (j : Nat) : bulkE (us.take j) ≤ bulkE us := by
  induction us generalizing j with
  | nil => simp [bulkE]
  | cons s ss ih =>
    cases j with
    | zero => simp [bulkE]
    | succ j => simp [bulkE]; exact ih j
theorem bulkE_at (us : List AE) (j : Nat) (h : j < us.length) : eB us[j] ≤ bulkE us := by
  have h1 := bulkE_take us j h
  have h2 := bulkE_le us (j + 1)
  omega
def ESz (es : List AE) : Prop := ∀ e ∈ es, e.ten.size ≤ 9223372036854775807 ∧ e.wha.size ≤ 9223372036854775807 ∧ e.det.size ≤ 9223372036854775807 ∧ e.sum.size ≤ 9223372036854775807

set_option maxRecDepth 100000 in
set_option maxHeartbeats 2000000 in
theorem szEntry_any (w : World) (e : AE) (h1 : e.ten.size ≤ 9223372036854775807) (h2 : e.wha.size ≤ 9223372036854775807) (h3 : e.det.size ≤ 9223372036854775807) (h4 : e.sum.size ≤ 9223372036854775807) (M : Nat) (hM : M ≤ 1048576) :
    Calls Tryd.prog 17 #[.agg #[.int .i64 e.seq, .string e.ten, .string e.wha, .string e.det, .string e.sum], .int .i64 (M : Int)] w fun r w' => ∃ k : Int, r = .returned (.int .i64 k) ∧ Left M (eB e) k ∧ w.grownBy w' none := by
  have HG := Lib.hid (show w.grownBy (w.alloc (Obj.cells #[Value.int .i64 e.seq, .string e.ten, .string e.wha, .string e.det, .string e.sum] 36)) none from grown_alloc (grown_refl _ _) _)
  have HU := Lib.hid (show eB e = e.ten.size + (e.wha.size + (e.det.size + e.sum.size)) from rfl)
  rw [HU.out]
  by_cases a1 : (M : Int) < e.ten.size
  · go_enter Tryd.func17, Tryd.ntmps17
    go_wp2
    go_ret
    exact ⟨-1, rfl, .inl ⟨rfl, by omega⟩, HG.out⟩
  by_cases a2 : (M : Int) - e.ten.size < e.wha.size
  · go_enter Tryd.func17, Tryd.ntmps17
    go_wp2
    go_ret
    exact ⟨-1, rfl, .inl ⟨rfl, by omega⟩, HG.out⟩
  by_cases a3 : (M : Int) - e.ten.size - e.wha.size < e.det.size
  · go_enter Tryd.func17, Tryd.ntmps17
    go_wp2
    go_ret
    exact ⟨-1, rfl, .inl ⟨rfl, by omega⟩, HG.out⟩
  by_cases a4 : (M : Int) - e.ten.size - e.wha.size - e.det.size < e.sum.size
  · go_enter Tryd.func17, Tryd.ntmps17
    go_wp2
    go_ret
    exact ⟨-1, rfl, .inl ⟨rfl, by omega⟩, HG.out⟩
  go_enter Tryd.func17, Tryd.ntmps17
  go_wp2
  go_ret
  exact ⟨_, rfl, .inr ⟨by omega, by omega⟩, HG.out⟩
end Go.Proofs.YtfdhopkjblbkmaaDoor
