/- Lists of texts: how they lie, how much they are, copied, compared. -/
import Derived.Test.YtecekbhkombnnaaDoorN1
namespace Go.Proofs.YtecekbhkombnnaaDoor
open Go.RowKit

/-- a list of texts lies behind an address, in a block from base on -/
def Lies (w : World) (base : Nat) (ao : Option Addr) (ss : List ByteArray) : Prop := ss.length = 0 ∨ ∃ ab o, ao = some ⟨ab, o, none⟩ ∧ base ≤ ab ∧ ∀ j, j < ss.length → w.cell? ⟨ab, o + j, none⟩ = some (.string (ss.getD j ByteArray.empty))
theorem Lies.kept {w w' : World} {base : Nat} {ao : Option Addr} {ss : List ByteArray} {row : Option Nat} (h : Lies w base ao ss) (hg : w.grownBy w' row) (hr : ∀ q, row = some q → q < base) : Lies w' base ao ss := by
  rcases h with h | ⟨ab, o, rfl, hb, h⟩
  · exact .inl h
  · exact .inr ⟨ab, o, rfl, hb, fun j hj => hg.cell (h j hj) (fun e => by have := hr ab e.symm; omega)⟩
theorem Lies.base {w : World} {base b' : Nat} {ao : Option Addr} {ss : List ByteArray} (h : Lies w base ao ss) (hb : b' ≤ base) : Lies w b' ao ss := by
  rcases h with h | ⟨ab, o, rfl, hb2, h⟩
  · exact .inl h
  · exact .inr ⟨ab, o, rfl, by omega, h⟩

/-- how much a list of texts is -/
def bulkS : List ByteArray → Nat
  | [] => 0
  | s :: ss => s.size + bulkS ss
theorem bulkS_take (ss : List ByteArray) : ∀ j (h : j < ss.length), bulkS (ss.take (j + 1)) = bulkS (ss.take j) + (ss[j]).size := by
  induction ss with
  | nil => intro j h; simp at h
  | cons s ss ih =>
    intro j h
    cases j with
    | zero => simp [bulkS]
    | succ j => simp [bulkS, ih j (by simpa using h), Nat.add_assoc]
theorem bulkS_le (ss : List ByteArray) (j : Nat) : bulkS (ss.take j) ≤ bulkS ss := by
  induction ss generalizing j with
  | nil => simp [bulkS]
  | cons s ss ih =>
    cases j with
    | zero => simp [bulkS]
    | succ j => simp [bulkS]; exact ih j
def Left (M b : Nat) (r : Int) : Prop := (r = -1 ∧ M < b) ∨ (0 ≤ r ∧ r + b = M)

def strs (ss : List ByteArray) : List Value := ss.map Value.string
theorem set_step (ss : List ByteArray) (k : Nat) (hk : k < ss.length) : (strs (ss.take k) ++ List.replicate (ss.length - k) (Value.string ⟨#[]⟩)).set k (.string (ss.getD k ByteArray.empty)) = strs (ss.take (k + 1)) ++ List.replicate (ss.length - (k + 1)) (Value.string ⟨#[]⟩) := by
  have hl : (strs (ss.take k)).length = k := by simp [strs]; omega
  rw [List.set_append_right _ _ (by omega), hl, Nat.sub_self, show ss.length - k = (ss.length - (k + 1)) + 1 from by omega, List.replicate_succ, List.set_cons_zero, List.take_succ_eq_append_getElem hk, show ss.getD k ByteArray.empty = ss[k] from by simp [hk]]
  simp only [strs, List.map_append, List.map_cons, List.map_nil, List.append_assoc, List.cons_append, List.nil_append]
theorem made_one (z : Value) (n : Nat) : madeCells #[z] n = Array.replicate n z := by
  unfold madeCells
  apply Array.ext
  · simp
  · intro i h1 h2
    simp [Nat.mod_one]
theorem info9 : (Tryd.prog.info? 9).map (fun i => (i.zero, i.size, i.bytes)) = some (some (.string ⟨#[]⟩), 1, 16) := by kernel_rfl

set_option maxRecDepth 100000 in
set_option maxHeartbeats 1000000 in
theorem eqS_any (w : World) (b1 b2 : Nat) (ss : List ByteArray) (a1 a2 : Option Addr) (c1 c2 : Nat) (h1 : Lies w b1 a1 ss) (h2 : Lies w b2 a2 ss) (hn : ss.length ≤ 1048576) :
    Calls Tryd.prog 20 #[.slice a1 ss.length c1, .slice a2 ss.length c2] w fun e w' => e = .returned (.bool true) ∧ w.grownBy w' none := by
  have H1 := Lib.hid h1
  have H2 := Lib.hid h2
  clear h1 h2
  go_enter Tryd.func20, Tryd.ntmps20
  go_wp2
  go_loopw [5] (fun i wr => ∃ k : Nat, k ≤ ss.length ∧ i = .int .i64 k ∧ w.grownBy wr none) (fun i _ => ss.length - (intOf i).toNat)
  case atStart => exact ⟨0, Nat.zero_le _, rfl, grown_refl _ _⟩
  case round =>
    obtain ⟨k, hk, rfl, hg⟩ := hrel
    have HG := Lib.hid hg
    by_cases hlt : k < ss.length
    · rcases H1.out with h0 | ⟨ab, o, rfl, -, hc⟩
      · omega
      rcases H2.out with h0 | ⟨ab2, o2, rfl, -, hc2⟩
      · omega
      have d1 := hg.cell (hc k hlt) (by simp)
      have d2 := hg.cell (hc2 k hlt) (by simp)
      generalize ss.getD k ByteArray.empty = s at d1 d2
      have hkI : (k : Int) < ss.length := by omega
      clear hg hc hc2
      go_wp2
      go_quiet (fail)
      go_wp2
      go_roundw
      case rel => exact ⟨k + 1, by omega, by go_num, grown_drewN HG.out _⟩
      case measure => simp [intOf]; omega
    · obtain rfl : k = ss.length := by omega
      clear hg
      go_wp2
      go_ret
      exact ⟨rfl, HG.out⟩

theorem strs_one (L : List ByteArray) : ∀ v ∈ strs L, v.oneCell' = true := fun v hv => by
  obtain ⟨s, _, rfl⟩ := List.mem_map.1 hv
  rfl

theorem Row.lies {w : World} {base : Nat} {v : Value} {ss : List ByteArray} (h : Row w base v (strs ss)) : ∃ an cn, v = .slice an ss.length cn ∧ Lies w base an ss := by
  rcases h with ⟨rfl, h⟩ | ⟨g, c, rfl, hb, hl, hn, hc, hf⟩
  · have : ss = [] := by simpa [strs] using h
    subst this
    exact ⟨none, 0, rfl, .inl rfl⟩
  · refine ⟨_, c, by simp [strs], .inr ⟨g, 0, rfl, hb, fun j hj => ?_⟩⟩
    rw [Nat.zero_add, hc j (by simpa [strs] using hj)]
    simp [strs, hj]

theorem strs_len (ss : List ByteArray) : (strs ss).length = ss.length := by simp [strs]

end Go.Proofs.YtecekbhkombnnaaDoor
