/- Lists of texts: how they lie, how much they are, copied, compared. -/
import Derived.Test.YtfdhopkjblbkmaaDoorN1
namespace Go.Proofs.YtfdhopkjblbkmaaDoor
open Go.RowKit

/-- a list of texts lies behind an address, in a block from base on -/
def Lies (w : World) (base : Nat) (ao : Option Addr) (ss : List ByteArray) : Prop := ss.length = 0 ∨ ∃ ab o, ao = some ⟨ab, o, none⟩ ∧ base ≤ ab ∧ ∀ j, j < ss.length → w.cell? ⟨ab, o + j, none⟩ = some (.string (ss.getD j ByteArray.empty))
theorem Lies.kept {w w' : World} {base : Nat} {ao : Option Addr} {ss : List ByteArray} {row : Option Nat} (h : Lies w base ao ss) (hg : w.grownBy w' row) (hr : ∀ q, row = some q → q < base) : Lies w' base ao ss := by
  rcases h with h | ⟨ab, o, rfl, hb, h⟩
  · exact .inl h
  · exact .inr ⟨ab, o, rfl, hb, fun j hj => hg.cell (h j hj) (fun e => by have := hr ab e.symm; omega)⟩
theorem Lies.base {w : World} {base b' : Nat} {ao : Option Addr} {ss : List ByteArray} (h : Lies w base ao ss) (hb : b' ≤ base) : Lies w b' ao ss := by
  rcases h with h | ⟨ab, o, rfl, hb2, h⟩
  · exact .inl h
  · exact .inr ⟨ab, o, rfl, by omega, h⟩

/-- how much a list of texts is -/
def bulkS : List ByteArray → Nat
  | [] => 0
  | s :: ss => s.size + bulkS ss
theorem bulkS_take (ss : List ByteArray) : ∀ j (h : j < ss.length), bulkS (ss.take (j + 1)) = bulkS (ss.take j) + (ss[j]).size := by
  induction ss with
  | nil => intro j h; simp at h
  | cons s ss ih =>
    intro j h
    cases j with
    | zero => simp [bulkS]
    | succ j => simp [bulkS, ih j (by simpa using h), Nat.add_assoc]
theorem bulkS_le (ss : List ByteArray) (j : Nat) : bulkS (ss.take j) ≤ bulkS ss := by
  induction ss generalizing j with
  | nil => simp [bulkS]
  | cons s ss ih =>
    cases j with
    | zero => simp [bulkS]
    | succ j => simp [bulkS]; exact ih j
def Left (M b : Nat) (r : Int) : Prop := (r = -1 ∧ M < b) ∨ (0 ≤ r ∧ r + b = M)

def strs (ss : List ByteArray) : List Value := ss.map Value.string
theorem set_step (ss : List ByteArray) (k : Nat) (hk : k < ss.length) : (strs (ss.take k) ++ List.replicate (ss.length - k) (Value.string ⟨#[]⟩)).set k (.string (ss.getD k ByteArray.empty)) = strs (ss.take (k + 1)) ++ List.replicate (ss.length - (k + 1)) (Value.string ⟨#[]⟩) := by
  have hl : (strs (ss.take k)).length = k := by simp [strs]; omega
  rw [List.set_append_right _ _ (by omega), hl, Nat.sub_self, show ss.length - k = (ss.length - (k + 1)) + 1 from by omega, List.replicate_succ, List.set_cons_zero, List.take_succ_eq_append_getElem hk, show ss.getD k ByteArray.empty = ss[k] from by simp [hk]]
  simp only [strs, List.map_append, List.map_cons, List.map_nil, List.append_assoc, List.cons_append, List.nil_append]
theorem made_one (z : Value) (n : Nat) : madeCells #[z] n = Array.replicate n z := by
  unfold madeCells
  apply Array.ext
  · simp
  · intro i h1 h2
    simp [Nat.mod_one]
theorem info9 : (Tryd.prog.info? 9).map (fun i => (i.zero, i.size, i.bytes)) = some (some (.string ⟨#[]⟩), 1, 16) := by kernel_rfl

theorem strs_one (L : List ByteArray) : ∀ v ∈ strs L, v.oneCell' = true := fun v hv => by
  obtain ⟨s, _, rfl⟩ := List.mem_map.1 hv
  rfl

theorem Row.lies {w : World} {base : Nat} {v : Value} {ss : List ByteArray} (h : Row w base v (strs ss)) : ∃ an cn, v = .slice an ss.length cn ∧ Lies w base an ss := by
  rcases h with ⟨rfl, h⟩ | ⟨g, c, rfl, hb, hl, hn, hc, hf⟩
  · have : ss = [] := by simpa [strs] using h
    subst this
    exact ⟨none, 0, rfl, .inl rfl⟩
  · refine ⟨_, c, by simp [strs], .inr ⟨g, 0, rfl, hb, fun j hj => ?_⟩⟩
    rw [Nat.zero_add, hc j (by simpa [strs] using hj)]
    simp [strs, hj]

theorem strs_len (ss : List ByteArray) : (strs ss).length = ss.length := by simp [strs]

end Go.Proofs.YtfdhopkjblbkmaaDoor
