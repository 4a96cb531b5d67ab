/- Lists of entries, copied. -/
import Derived.Test.YtdelijobaebfnaaDoorMa5
import Derived.Test.YtdelijobaebfnaaDoorMa2
import Derived.Test.YtdelijobaebfnaaDoorMa1
import Derived.Deep.LoopGhost
import Derived.Test.YtdelijobaebfnaaDoorXH7
import Derived.Shelf.Lay
import Derived.Shelf.LaysM
import Derived.Shelf.Strconv.Itoa3
namespace Go.Proofs.YtdelijobaebfnaaDoor
open Go.RowKit

def z5 : List Value := [.int .i64 0, .string ⟨#[]⟩, .string ⟨#[]⟩, .string ⟨#[]⟩, .string ⟨#[]⟩]
def zs5 : Nat → List Value
  | 0 => []
  | m + 1 => z5 ++ zs5 m
theorem zs5_len (m : Nat) : (zs5 m).length = m * 5 := by
  induction m with
  | zero => rfl
  | succ m ih => simp [zs5, z5, ih]; omega
theorem zs5_get (m i : Nat) (h : i < m * 5) : (zs5 m)[i]? = z5[i % 5]? := by
  induction m generalizing i with
  | zero => omega
  | succ m ih =>
    unfold zs5
    by_cases h5 : i < 5
    · rw [List.getElem?_append_left (by simpa [z5] using h5), Nat.mod_eq_of_lt h5]
    · rw [List.getElem?_append_right (by simp [z5]; omega), show z5.length = 5 from rfl, ih (i - 5) (by omega)]
      congr 1
      omega
theorem made_five (n : Nat) : madeCells #[Value.int .i64 0, .string ⟨#[]⟩, .string ⟨#[]⟩, .string ⟨#[]⟩, .string ⟨#[]⟩] (n * 5) = (zs5 n).toArray := by
  unfold madeCells
  apply Array.ext
  · simp [zs5_len]
  · intro i h1 h2
    simp at h1
    have hz := zs5_get n i h1
    have hlt : i < (zs5 n).length := by rw [zs5_len]; exact h1
    rw [List.getElem?_eq_getElem hlt] at hz
    have h5 : i % 5 = 0 ∨ i % 5 = 1 ∨ i % 5 = 2 ∨ i % 5 = 3 ∨ i % 5 = 4 := by omega
    rcases h5 with h | h | h | h | h <;> simp [h, z5] at hz ⊢ <;> rw [hz]
theorem set_five (X : List Value) (k m : Nat) (hX : X.length = k * 5) (c0 c1 c2 c3 c4 : Value) : (((((X ++ zs5 (m + 1)).set (k * 5) c0).set (k * 5 + 1) c1).set (k * 5 + 2) c2).set (k * 5 + 3) c3).set (k * 5 + 4) c4 = (X ++ [c0, c1, c2, c3, c4]) ++ zs5 m := by
  rw [List.set_append_right _ _ (by omega), List.set_append_right _ _ (by omega), List.set_append_right _ _ (by omega), List.set_append_right _ _ (by omega), List.set_append_right _ _ (by omega), hX, List.append_assoc]
  simp [zs5, z5, Nat.add_sub_cancel_left]
theorem get_five (X : List Value) (k m j : Nat) (hX : X.length = k * 5) (hj : j < 5) : (X ++ zs5 (m + 1))[k * 5 + j]? = z5[j]? := by
  rw [List.getElem?_append_right (by omega), hX, Nat.add_sub_cancel_left, zs5, List.getElem?_append_left (by simpa [z5] using hj)]
theorem info83 : (Tryd.prog.info? 28).map (fun i => (i.zero, i.size, i.bytes)) = some (some (.agg #[.int .i64 0, .string ⟨#[]⟩, .string ⟨#[]⟩, .string ⟨#[]⟩, .string ⟨#[]⟩]), 5, 72) := by kernel_rfl
/-- the cells of entries -/
def entsV : List AE → List Value
  | [] => []
  | u :: us => [Value.int .i64 u.seq, .string u.ten, .string u.wha, .string u.det, .string u.sum] ++ entsV us
theorem entsV_len (us : List AE) : (entsV us).length = us.length * 5 := by
  induction us with
  | nil => rfl
  | cons u us ih => simp [entsV, ih]; omega
theorem entsV_app (a b : List AE) : entsV (a ++ b) = entsV a ++ entsV b := by
  induction a with
  | nil => rfl
  | cons u us ih => simp [entsV, ih]
theorem entsV_get (us : List AE) : ∀ j (h : j < us.length), (entsV us)[j * 5]? = some (.int .i64 us[j].seq) ∧ (entsV us)[j * 5 + 1]? = some (.string us[j].ten) ∧ (entsV us)[j * 5 + 2]? = some (.string us[j].wha) ∧ (entsV us)[j * 5 + 3]? = some (.string us[j].det) ∧ (entsV us)[j * 5 + 4]? = some (.string us[j].sum) := by
  induction us with
  | nil => intro j h; simp at h
  | cons u us ih =>
    intro j h
    cases j with
    | zero => simp [entsV]
    | succ j =>
      have := ih j (by simpa using h)
      simp only [entsV]
      have e : ∀ k, (j + 1) * 5 + k = 5 + (j * 5 + k) := fun k => by omega
      have e0 : (j + 1) * 5 = 5 + j * 5 := by omega
      rw [e, e, e, e, e0]
      have g : ∀ k, ([Value.int .i64 u.seq, .string u.ten, .string u.wha, .string u.det, .string u.sum] ++ entsV us)[5 + k]? = (entsV us)[k]? := fun k => by
        rw [List.getElem?_append_right (by simp)]
        simp
      rw [g, g, g, g, g]
      simpa using this
theorem Blk.ents {w : World} {g : Nat} {t : TypeId} {us : List AE} (h : Blk w g t (entsV us)) : ELies w g (some ⟨g, 0, none⟩) us := by
  refine .inr ⟨g, 0, rfl, Nat.le_refl _, fun j hj => ?_⟩
  obtain ⟨a, b, c, d, e⟩ := entsV_get us j hj
  rw [Nat.zero_add]
  exact ⟨h.cell a, h.cell b, h.cell c, h.cell d, h.cell e⟩

end Go.Proofs.YtdelijobaebfnaaDoor
namespace Go.Proofs.YtdelijobaebfnaaDoor
open Go.RowKit

end Go.Proofs.YtdelijobaebfnaaDoor
namespace Go.Proofs.YtdelijobaebfnaaDoor
open Go.RowKit

theorem conv_one (W : World) (x : Int) (h0 : 0 ≤ x) (h1 : x < 256) (g : Nat) (hc : W.cell? ⟨g, 0, none⟩ = some (.int .u8 x)) : (convert 22 9 (.slice (some ⟨g, 0, none⟩) 1 1)).run Tryd.prog W = .ok (.string (strI [x])) W := by
  have hcells : ∀ j (hj : j < (toB [x]).length), W.cell? ((⟨g, 0, none⟩ : Addr).add j) = some (.int .u8 ((toB [x])[j].toNat : Int)) := fun j hj => by
    have hj0 : j = 0 := by simpa [toB] using hj
    subst hj0
    rw [Addr.add_mid, Nat.zero_add, hc]
    simp [toB]
    omega
  exact run_convert_bytes_back (P := Tryd.prog) W 22 9 5 ⟨g, 0, none⟩ 1 (toB [x]) Tryd.underlying22 Tryd.underlying5 Tryd.underlying9 hcells

/-- the figures of a number ahead of a text, at most so many -/
def mtGo : Nat → Nat → ByteArray → ByteArray
  | 0, _, out => out
  | f + 1, k, out => if k = 0 then out else mtGo f (k / 10) (strI [48 + ((k % 10 : Nat) : Int)] ++ out)
theorem mtGo_zero (f : Nat) (out : ByteArray) : mtGo f 0 out = out := by cases f <;> simp [mtGo]
/-- the mark of a number -/
def MT (k : Nat) : ByteArray := ⟨#[109]⟩ ++ mtGo k k ⟨#[]⟩

end Go.Proofs.YtdelijobaebfnaaDoor
namespace Go.Proofs.YtdelijobaebfnaaDoor
open Go.RowKit

shelf_lay LaysM.n171 Nm 171 at Tryd as Tryd.laysM171
open Go.RowKit Go.Sort Go.Lib in
theorem itoa_any (n : Int) (h0 : -9223372036854775808 ≤ n) (h1 : n ≤ 9223372036854775807) (w : World) (htab : Lib.TabIs Tryd.prog w "internal/strconv.uint64pow10" .u64 Lib.pow10Tab) :
    Calls Tryd.prog 52 #[.int .i64 n] w fun e w' => e = .returned (.string ⟨(Lib.itoa n).toArray⟩) ∧ ∃ k os, w' = grow (w.drewN k) os := Any.strconv_Itoa Tryd.laysM171 n h0 h1 w htab

end Go.Proofs.YtdelijobaebfnaaDoor
