/- Lists of texts: how they lie, how much they are, copied, compared. -/
import Derived.Test.YtdelijobaebfnaaDoorN1
import Derived.Test.YtdelijobaebfnaaDoorMa2
namespace Go.Proofs.YtdelijobaebfnaaDoor
open Go.RowKit

/-- a list of texts lies behind an address, in a block from base on -/
def Lies (w : World) (base : Nat) (ao : Option Addr) (ss : List ByteArray) : Prop := ss.length = 0 ∨ ∃ ab o, ao = some ⟨ab, o, none⟩ ∧ base ≤ ab ∧ ∀ j, j < ss.length → w.cell? ⟨ab, o + j, none⟩ = some (.string (ss.getD j ByteArray.empty))
theorem Lies.kept {w w' : World} {base : Nat} {ao : Option Addr} {ss : List ByteArray} {row : Option Nat} (h : Lies w base ao ss) (hg : w.grownBy w' row) (hr : ∀ q, row = some q → q < base) : Lies w' base ao ss := by
  rcases h with h | ⟨ab, o, rfl, hb, h⟩
  · exact .inl h
  · exact .inr ⟨ab, o, rfl, hb, fun j hj => hg.cell (h j hj) (fun e => by have := hr ab e.symm; omega)⟩
theorem Lies.base {w : World} {base b' : Nat} {ao : Option Addr} {ss : List ByteArray} (h : Lies w base ao ss) (hb : b' ≤ base) : Lies w b' ao ss := by
  rcases h with h | ⟨ab, o, rfl, hb2, h⟩
  · exact .inl h
  · exact .inr ⟨ab, o, rfl, by omega, h⟩

/-- how much a list of texts is -/
def bulkS : List ByteArray → Nat
  | [] => 0
  | s :: ss => s.size + bulkS ss
theorem bulkS_take (ss : List ByteArray) : ∀ j (h : j < ss.length), bulkS (ss.take (j + 1)) = bulkS (ss.take j) + (ss[j]).size := by
  induction ss with
  | nil => intro j h; simp at h
  | cons s ss ih =>
    intro j h
    cases j with
    | zero => simp [bulkS]
    | succ j => simp [bulkS, ih j (by simpa using h), Nat.add_assoc]
theorem bulkS_le (ss : List ByteArray) (j : Nat) : bulkS (ss.take j) ≤ bulkS ss := by
  induction ss generalizing j with
  | nil => simp [bulkS]
  | cons s ss ih =>
    cases j with
    | zero => simp [bulkS]
    | succ j => simp [bulkS]; exact ih j
def Left (M b : Nat) (r : Int) : Prop := (r = -1 ∧ M < b) ∨ (0 ≤ r ∧ r + b = M)

def strs (ss : List ByteArray) : List Value := ss.map Value.string
theorem set_step (ss : List ByteArray) (k : Nat) (hk : k < ss.length) : (strs (ss.take k) ++ List.replicate (ss.length - k) (Value.string ⟨#[]⟩)).set k (.string (ss.getD k ByteArray.empty)) = strs (ss.take (k + 1)) ++ List.replicate (ss.length - (k + 1)) (Value.string ⟨#[]⟩) := by
  have hl : (strs (ss.take k)).length = k := by simp [strs]; omega
  rw [List.set_append_right _ _ (by omega), hl, Nat.sub_self, show ss.length - k = (ss.length - (k + 1)) + 1 from by omega, List.replicate_succ, List.set_cons_zero, List.take_succ_eq_append_getElem hk, show ss.getD k ByteArray.empty = ss[k] from by simp [hk]]
  simp only [strs, List.map_append, List.map_cons, List.map_nil, List.append_assoc, List.cons_append, List.nil_append]
theorem made_one (z : Value) (n : Nat) : madeCells #[z] n = Array.replicate n z := by
  unfold madeCells
  apply Array.ext
  · simp
  · intro i h1 h2
    simp [Nat.mod_one]
theorem info9 : (Tryd.prog.info? 9).map (fun i => (i.zero, i.size, i.bytes)) = some (some (.string ⟨#[]⟩), 1, 16) := by kernel_rfl

theorem strs_one (L : List ByteArray) : ∀ v ∈ strs L, v.oneCell' = true := fun v hv => by
  obtain ⟨s, _, rfl⟩ := List.mem_map.1 hv
  rfl

theorem Row.lies {w : World} {base : Nat} {v : Value} {ss : List ByteArray} (h : Row w base v (strs ss)) : ∃ an cn, v = .slice an ss.length cn ∧ Lies w base an ss := by
  rcases h with ⟨rfl, h⟩ | ⟨g, c, rfl, hb, hl, hn, hc, hf⟩
  · have : ss = [] := by simpa [strs] using h
    subst this
    exact ⟨none, 0, rfl, .inl rfl⟩
  · refine ⟨_, c, by simp [strs], .inr ⟨g, 0, rfl, hb, fun j hj => ?_⟩⟩
    rw [Nat.zero_add, hc j (by simpa [strs] using hj)]
    simp [strs, hj]

theorem strs_len (ss : List ByteArray) : (strs ss).length = ss.length := by simp [strs]

end Go.Proofs.YtdelijobaebfnaaDoor
namespace Go.Proofs.YtdelijobaebfnaaDoor
open Go.RowKit

/-- an entry: its number, whose, what, its detail, its sum -/
structure AE where
  seq : Int
  ten : ByteArray
  wha : ByteArray
  det : ByteArray
  sum : ByteArray

/-- an entry's five cells at a place -/
def Ent (w : World) (b o : Nat) (e : AE) : Prop := w.cell? ⟨b, o, none⟩ = some (.int .i64 e.seq) ∧ w.cell? ⟨b, o + 1, none⟩ = some (.string e.ten) ∧ w.cell? ⟨b, o + 2, none⟩ = some (.string e.wha) ∧ w.cell? ⟨b, o + 3, none⟩ = some (.string e.det) ∧ w.cell? ⟨b, o + 4, none⟩ = some (.string e.sum)
theorem Ent.kept {w w' : World} {b o : Nat} {e : AE} {row : Option Nat} (h : Ent w b o e) (hg : w.grownBy w' row) (hb : some b ≠ row) : Ent w' b o e :=
  ⟨hg.cell h.1 hb, hg.cell h.2.1 hb, hg.cell h.2.2.1 hb, hg.cell h.2.2.2.1 hb, hg.cell h.2.2.2.2 hb⟩
/-- a list of entries lies behind an address, in a block from base on -/
def ELies (w : World) (base : Nat) (ao : Option Addr) (es : List AE) : Prop := es.length = 0 ∨ ∃ ab o, ao = some ⟨ab, o, none⟩ ∧ base ≤ ab ∧ ∀ j (h : j < es.length), Ent w ab (o + j * 5) es[j]
theorem ELies.kept {w w' : World} {base : Nat} {ao : Option Addr} {es : List AE} {row : Option Nat} (h : ELies w base ao es) (hg : w.grownBy w' row) (hr : ∀ q, row = some q → q < base) : ELies w' base ao es := by
  rcases h with h | ⟨ab, o, rfl, hb, h⟩
  · exact .inl h
  · exact .inr ⟨ab, o, rfl, hb, fun j hj => (h j hj).kept hg (fun e => by have := hr ab e.symm; omega)⟩
theorem ELies.grown {w w' : World} {base : Nat} {ao : Option Addr} {es : List AE} (h : ELies w base ao es) (hg : w.grownBy w' none) : ELies w' base ao es := h.kept hg (fun q e => by cases e)

/-- how much an entry is, and entries -/
def eB (e : AE) : Nat := e.ten.size + (e.wha.size + (e.det.size + e.sum.size))
def bulkE : List AE → Nat
  | [] => 0
  | u :: us => eB u + bulkE us
theorem bulkE_take (us : List AE) : ∀ j (h : j < us.length), bulkE (us.take (j + 1)) = bulkE (us.take j) + eB us[j] := by
  induction us with
  | nil => intro j h; simp at h
  | cons s ss ih =>
    intro j h
    cases j with
    | zero => simp [bulkE]
    | succ j => simp [bulkE, ih j (by simpa using h), Nat.add_assoc]
theorem bulkE_le (us : List AE) (j : Nat) : bulkE (us.take j) ≤ bulkE us := by
  induction us generalizing j with
  | nil => simp [bulkE]
  | cons s ss ih =>
    cases j with
    | zero => simp [bulkE]
    | succ j => simp [bulkE]; exact ih j
theorem bulkE_at (us : List AE) (j : Nat) (h : j < us.length) : eB us[j] ≤ bulkE us := by
  have h1 := bulkE_take us j h
  have h2 := bulkE_le us (j + 1)
  omega
def ESz (es : List AE) : Prop := ∀ e ∈ es, e.ten.size ≤ 9223372036854775807 ∧ e.wha.size ≤ 9223372036854775807 ∧ e.det.size ≤ 9223372036854775807 ∧ e.sum.size ≤ 9223372036854775807

end Go.Proofs.YtdelijobaebfnaaDoor
namespace Go.Proofs.YtdelijobaebfnaaDoor
open Go.RowKit

theorem info83s : (Tryd.prog.info? 28).map (·.size) = some 5 := by kernel_rfl

end Go.Proofs.YtdelijobaebfnaaDoor
