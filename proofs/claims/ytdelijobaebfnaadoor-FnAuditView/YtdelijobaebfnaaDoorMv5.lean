/- Lists of texts: how they lie, how much they are, copied, compared. -/
import Derived.Test.YtdelijobaebfnaaDoorN1
import Derived.Test.YtdelijobaebfnaaDoorMv2
import Derived.Test.YtdelijobaebfnaaDoorMv1
import Derived.Deep.LoopGhost
import Derived.Test.YtdelijobaebfnaaDoorXH7
import Derived.Shelf.Lay
import Derived.Shelf.LaysM
import Derived.Shelf.Strconv.Itoa3
namespace Go.Proofs.YtdelijobaebfnaaDoor
open Go.RowKit

/-- a list of texts lies behind an address, in a block from base on -/
def Lies (w : World) (base : Nat) (ao : Option Addr) (ss : List ByteArray) : Prop := ss.length = 0 ∨ ∃ ab o, ao = some ⟨ab, o, none⟩ ∧ base ≤ ab ∧ ∀ j, j < ss.length → w.cell? ⟨ab, o + j, none⟩ = some (.string (ss.getD j ByteArray.empty))
theorem Lies.kept {w w' : World} {base : Nat} {ao : Option Addr} {ss : List ByteArray} {row : Option Nat} (h : Lies w base ao ss) (hg : w.grownBy w' row) (hr : ∀ q, row = some q → q < base) : Lies w' base ao ss := by
  rcases h with h | ⟨ab, o, rfl, hb, h⟩
  · exact .inl h
  · exact .inr ⟨ab, o, rfl, hb, fun j hj => hg.cell (h j hj) (fun e => by have := hr ab e.symm; omega)⟩
theorem Lies.base {w : World} {base b' : Nat} {ao : Option Addr} {ss : List ByteArray} (h : Lies w base ao ss) (hb : b' ≤ base) : Lies w b' ao ss := by
  rcases h with h | ⟨ab, o, rfl, hb2, h⟩
  · exact .inl h
  · exact .inr ⟨ab, o, rfl, by omega, h⟩

/-- how much a list of texts is -/
def bulkS : List ByteArray → Nat
  | [] => 0
  | s :: ss => s.size + bulkS ss
theorem bulkS_take (ss : List ByteArray) : ∀ j (h : j < ss.length), bulkS (ss.take (j + 1)) = bulkS (ss.take j) + (ss[j]).size := by
  induction ss with
  | nil => intro j h; simp at h
  | cons s ss ih =>
    intro j h
    cases j with
    | zero => simp [bulkS]
    | succ j => simp [bulkS, ih j (by simpa using h), Nat.add_assoc]
theorem bulkS_le (ss : List ByteArray) (j : Nat) : bulkS (ss.take j) ≤ bulkS ss := by
  induction ss generalizing j with
  | nil => simp [bulkS]
  | cons s ss ih =>
    cases j with
    | zero => simp [bulkS]
    | succ j => simp [bulkS]; exact ih j
def Left (M b : Nat) (r : Int) : Prop := (r = -1 ∧ M < b) ∨ (0 ≤ r ∧ r + b = M)

def strs (ss : List ByteArray) : List Value := ss.map Value.string
theorem set_step (ss : List ByteArray) (k : Nat) (hk : k < ss.length) : (strs (ss.take k) ++ List.replicate (ss.length - k) (Value.string ⟨#[]⟩)).set k (.string (ss.getD k ByteArray.empty)) = strs (ss.take (k + 1)) ++ List.replicate (ss.length - (k + 1)) (Value.string ⟨#[]⟩) := by
  have hl : (strs (ss.take k)).length = k := by simp [strs]; omega
  rw [List.set_append_right _ _ (by omega), hl, Nat.sub_self, show ss.length - k = (ss.length - (k + 1)) + 1 from by omega, List.replicate_succ, List.set_cons_zero, List.take_succ_eq_append_getElem hk, show ss.getD k ByteArray.empty = ss[k] from by simp [hk]]
  simp only [strs, List.map_append, List.map_cons, List.map_nil, List.append_assoc, List.cons_append, List.nil_append]
theorem made_one (z : Value) (n : Nat) : madeCells #[z] n = Array.replicate n z := by
  unfold madeCells
  apply Array.ext
  · simp
  · intro i h1 h2
    simp [Nat.mod_one]
theorem info9 : (Tryd.prog.info? 9).map (fun i => (i.zero, i.size, i.bytes)) = some (some (.string ⟨#[]⟩), 1, 16) := by kernel_rfl

theorem strs_one (L : List ByteArray) : ∀ v ∈ strs L, v.oneCell' = true := fun v hv => by
  obtain ⟨s, _, rfl⟩ := List.mem_map.1 hv
  rfl

theorem Row.lies {w : World} {base : Nat} {v : Value} {ss : List ByteArray} (h : Row w base v (strs ss)) : ∃ an cn, v = .slice an ss.length cn ∧ Lies w base an ss := by
  rcases h with ⟨rfl, h⟩ | ⟨g, c, rfl, hb, hl, hn, hc, hf⟩
  · have : ss = [] := by simpa [strs] using h
    subst this
    exact ⟨none, 0, rfl, .inl rfl⟩
  · refine ⟨_, c, by simp [strs], .inr ⟨g, 0, rfl, hb, fun j hj => ?_⟩⟩
    rw [Nat.zero_add, hc j (by simpa [strs] using hj)]
    simp [strs, hj]

theorem strs_len (ss : List ByteArray) : (strs ss).length = ss.length := by simp [strs]

end Go.Proofs.YtdelijobaebfnaaDoor
namespace Go.Proofs.YtdelijobaebfnaaDoor
open Go.RowKit

/-- an entry: its number, whose, what, its detail, its sum -/
structure AE where
  seq : Int
  ten : ByteArray
  wha : ByteArray
  det : ByteArray
  sum : ByteArray

/-- an entry's five cells at a place -/
def Ent (w : World) (b o : Nat) (e : AE) : Prop := w.cell? ⟨b, o, none⟩ = some (.int .i64 e.seq) ∧ w.cell? ⟨b, o + 1, none⟩ = some (.string e.ten) ∧ w.cell? ⟨b, o + 2, none⟩ = some (.string e.wha) ∧ w.cell? ⟨b, o + 3, none⟩ = some (.string e.det) ∧ w.cell? ⟨b, o + 4, none⟩ = some (.string e.sum)
theorem Ent.kept {w w' : World} {b o : Nat} {e : AE} {row : Option Nat} (h : Ent w b o e) (hg : w.grownBy w' row) (hb : some b ≠ row) : Ent w' b o e :=
  ⟨hg.cell h.1 hb, hg.cell h.2.1 hb, hg.cell h.2.2.1 hb, hg.cell h.2.2.2.1 hb, hg.cell h.2.2.2.2 hb⟩
/-- a list of entries lies behind an address, in a block from base on -/
def ELies (w : World) (base : Nat) (ao : Option Addr) (es : List AE) : Prop := es.length = 0 ∨ ∃ ab o, ao = some ⟨ab, o, none⟩ ∧ base ≤ ab ∧ ∀ j (h : j < es.length), Ent w ab (o + j * 5) es[j]
theorem ELies.kept {w w' : World} {base : Nat} {ao : Option Addr} {es : List AE} {row : Option Nat} (h : ELies w base ao es) (hg : w.grownBy w' row) (hr : ∀ q, row = some q → q < base) : ELies w' base ao es := by
  rcases h with h | ⟨ab, o, rfl, hb, h⟩
  · exact .inl h
  · exact .inr ⟨ab, o, rfl, hb, fun j hj => (h j hj).kept hg (fun e => by have := hr ab e.symm; omega)⟩
theorem ELies.grown {w w' : World} {base : Nat} {ao : Option Addr} {es : List AE} (h : ELies w base ao es) (hg : w.grownBy w' none) : ELies w' base ao es := h.kept hg (fun q e => by cases e)

/-- how much an entry is, and entries -/
def eB (e : AE) : Nat := e.ten.size + (e.wha.size + (e.det.size + e.sum.size))
def bulkE : List AE → Nat
  | [] => 0
  | u :: us => eB u + bulkE us
theorem bulkE_take (us : List AE) : ∀ j (h : j < us.length), bulkE (us.take (j + 1)) = bulkE (us.take j) + eB us[j] := by
  induction us with
  | nil => intro j h; simp at h
  | cons s ss ih =>
    intro j h
    cases j with
    | zero => simp [bulkE]
    | succ j => simp [bulkE, ih j (by simpa using h), Nat.add_assoc]
theorem bulkE_le (us : List AE) (j : Nat) : bulkE (us.take j) ≤ bulkE us := by
  induction us generalizing j with
  | nil => simp [bulkE]
  | cons s ss ih =>
    cases j with
    | zero => simp [bulkE]
    | succ j => simp [bulkE]; exact ih j
theorem bulkE_at (us : List AE) (j : Nat) (h : j < us.length) : eB us[j] ≤ bulkE us := by
  have h1 := bulkE_take us j h
  have h2 := bulkE_le us (j + 1)
  omega
def ESz (es : List AE) : Prop := ∀ e ∈ es, e.ten.size ≤ 9223372036854775807 ∧ e.wha.size ≤ 9223372036854775807 ∧ e.det.size ≤ 9223372036854775807 ∧ e.sum.size ≤ 9223372036854775807

end Go.Proofs.YtdelijobaebfnaaDoor
namespace Go.Proofs.YtdelijobaebfnaaDoor
open Go.RowKit

theorem info83s : (Tryd.prog.info? 28).map (·.size) = some 5 := by kernel_rfl

end Go.Proofs.YtdelijobaebfnaaDoor
namespace Go.Proofs.YtdelijobaebfnaaDoor
open Go.RowKit

def z5 : List Value := [.int .i64 0, .string ⟨#[]⟩, .string ⟨#[]⟩, .string ⟨#[]⟩, .string ⟨#[]⟩]
def zs5 : Nat → List Value
  | 0 => []
  | m + 1 => z5 ++ zs5 m
theorem zs5_len (m : Nat) : (zs5 m).length = m * 5 := by
  induction m with
  | zero => rfl
  | succ m ih => simp [zs5, z5, ih]; omega
theorem zs5_get (m i : Nat) (h : i < m * 5) : (zs5 m)[i]? = z5[i % 5]? := by
  induction m generalizing i with
  | zero => omega
  | succ m ih =>
    unfold zs5
    by_cases h5 : i < 5
    · rw [List.getElem?_append_left (by simpa [z5] using h5), Nat.mod_eq_of_lt h5]
    · rw [List.getElem?_append_right (by simp [z5]; omega), show z5.length = 5 from rfl, ih (i - 5) (by omega)]
      congr 1
      omega
theorem made_five (n : Nat) : madeCells #[Value.int .i64 0, .string ⟨#[]⟩, .string ⟨#[]⟩, .string ⟨#[]⟩, .string ⟨#[]⟩] (n * 5) = (zs5 n).toArray := by
  unfold madeCells
  apply Array.ext
  · simp [zs5_len]
  · intro i h1 h2
    simp at h1
    have hz := zs5_get n i h1
    have hlt : i < (zs5 n).length := by rw [zs5_len]; exact h1
    rw [List.getElem?_eq_getElem hlt] at hz
    have h5 : i % 5 = 0 ∨ i % 5 = 1 ∨ i % 5 = 2 ∨ i % 5 = 3 ∨ i % 5 = 4 := by omega
    rcases h5 with h | h | h | h | h <;> simp [h, z5] at hz ⊢ <;> rw [hz]
theorem set_five (X : List Value) (k m : Nat) (hX : X.length = k * 5) (c0 c1 c2 c3 c4 : Value) : (((((X ++ zs5 (m + 1)).set (k * 5) c0).set (k * 5 + 1) c1).set (k * 5 + 2) c2).set (k * 5 + 3) c3).set (k * 5 + 4) c4 = (X ++ [c0, c1, c2, c3, c4]) ++ zs5 m := by
  rw [List.set_append_right _ _ (by omega), List.set_append_right _ _ (by omega), List.set_append_right _ _ (by omega), List.set_append_right _ _ (by omega), List.set_append_right _ _ (by omega), hX, List.append_assoc]
  simp [zs5, z5, Nat.add_sub_cancel_left]
theorem get_five (X : List Value) (k m j : Nat) (hX : X.length = k * 5) (hj : j < 5) : (X ++ zs5 (m + 1))[k * 5 + j]? = z5[j]? := by
  rw [List.getElem?_append_right (by omega), hX, Nat.add_sub_cancel_left, zs5, List.getElem?_append_left (by simpa [z5] using hj)]
theorem info83 : (Tryd.prog.info? 28).map (fun i => (i.zero, i.size, i.bytes)) = some (some (.agg #[.int .i64 0, .string ⟨#[]⟩, .string ⟨#[]⟩, .string ⟨#[]⟩, .string ⟨#[]⟩]), 5, 72) := by kernel_rfl
/-- the cells of entries -/
def entsV : List AE → List Value
  | [] => []
  | u :: us => [Value.int .i64 u.seq, .string u.ten, .string u.wha, .string u.det, .string u.sum] ++ entsV us
theorem entsV_len (us : List AE) : (entsV us).length = us.length * 5 := by
  induction us with
  | nil => rfl
  | cons u us ih => simp [entsV, ih]; omega
theorem entsV_app (a b : List AE) : entsV (a ++ b) = entsV a ++ entsV b := by
  induction a with
  | nil => rfl
  | cons u us ih => simp [entsV, ih]
theorem entsV_get (us : List AE) : ∀ j (h : j < us.length), (entsV us)[j * 5]? = some (.int .i64 us[j].seq) ∧ (entsV us)[j * 5 + 1]? = some (.string us[j].ten) ∧ (entsV us)[j * 5 + 2]? = some (.string us[j].wha) ∧ (entsV us)[j * 5 + 3]? = some (.string us[j].det) ∧ (entsV us)[j * 5 + 4]? = some (.string us[j].sum) := by
  induction us with
  | nil => intro j h; simp at h
  | cons u us ih =>
    intro j h
    cases j with
    | zero => simp [entsV]
    | succ j =>
      have := ih j (by simpa using h)
      simp only [entsV]
      have e : ∀ k, (j + 1) * 5 + k = 5 + (j * 5 + k) := fun k => by omega
      have e0 : (j + 1) * 5 = 5 + j * 5 := by omega
      rw [e, e, e, e, e0]
      have g : ∀ k, ([Value.int .i64 u.seq, .string u.ten, .string u.wha, .string u.det, .string u.sum] ++ entsV us)[5 + k]? = (entsV us)[k]? := fun k => by
        rw [List.getElem?_append_right (by simp)]
        simp
      rw [g, g, g, g, g]
      simpa using this
theorem Blk.ents {w : World} {g : Nat} {t : TypeId} {us : List AE} (h : Blk w g t (entsV us)) : ELies w g (some ⟨g, 0, none⟩) us := by
  refine .inr ⟨g, 0, rfl, Nat.le_refl _, fun j hj => ?_⟩
  obtain ⟨a, b, c, d, e⟩ := entsV_get us j hj
  rw [Nat.zero_add]
  exact ⟨h.cell a, h.cell b, h.cell c, h.cell d, h.cell e⟩

end Go.Proofs.YtdelijobaebfnaaDoor
namespace Go.Proofs.YtdelijobaebfnaaDoor
open Go.RowKit

end Go.Proofs.YtdelijobaebfnaaDoor
namespace Go.Proofs.YtdelijobaebfnaaDoor
open Go.RowKit

theorem conv_one (W : World) (x : Int) (h0 : 0 ≤ x) (h1 : x < 256) (g : Nat) (hc : W.cell? ⟨g, 0, none⟩ = some (.int .u8 x)) : (convert 22 9 (.slice (some ⟨g, 0, none⟩) 1 1)).run Tryd.prog W = .ok (.string (strI [x])) W := by
  have hcells : ∀ j (hj : j < (toB [x]).length), W.cell? ((⟨g, 0, none⟩ : Addr).add j) = some (.int .u8 ((toB [x])[j].toNat : Int)) := fun j hj => by
    have hj0 : j = 0 := by simpa [toB] using hj
    subst hj0
    rw [Addr.add_mid, Nat.zero_add, hc]
    simp [toB]
    omega
  exact run_convert_bytes_back (P := Tryd.prog) W 22 9 5 ⟨g, 0, none⟩ 1 (toB [x]) Tryd.underlying22 Tryd.underlying5 Tryd.underlying9 hcells

/-- the figures of a number ahead of a text, at most so many -/
def mtGo : Nat → Nat → ByteArray → ByteArray
  | 0, _, out => out
  | f + 1, k, out => if k = 0 then out else mtGo f (k / 10) (strI [48 + ((k % 10 : Nat) : Int)] ++ out)
theorem mtGo_zero (f : Nat) (out : ByteArray) : mtGo f 0 out = out := by cases f <;> simp [mtGo]
/-- the mark of a number -/
def MT (k : Nat) : ByteArray := ⟨#[109]⟩ ++ mtGo k k ⟨#[]⟩

end Go.Proofs.YtdelijobaebfnaaDoor
namespace Go.Proofs.YtdelijobaebfnaaDoor
open Go.RowKit

shelf_lay LaysM.n171 Nm 171 at Tryd as Tryd.laysM171
open Go.RowKit Go.Sort Go.Lib in
theorem itoa_any (n : Int) (h0 : -9223372036854775808 ≤ n) (h1 : n ≤ 9223372036854775807) (w : World) (htab : Lib.TabIs Tryd.prog w "internal/strconv.uint64pow10" .u64 Lib.pow10Tab) :
    Calls Tryd.prog 52 #[.int .i64 n] w fun e w' => e = .returned (.string ⟨(Lib.itoa n).toArray⟩) ∧ ∃ k os, w' = grow (w.drewN k) os := Any.strconv_Itoa Tryd.laysM171 n h0 h1 w htab

end Go.Proofs.YtdelijobaebfnaaDoor
