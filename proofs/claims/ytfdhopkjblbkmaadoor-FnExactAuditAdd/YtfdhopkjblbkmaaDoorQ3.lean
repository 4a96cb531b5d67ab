/- Lists of entries, copied. -/
import Derived.Test.YtfdhopkjblbkmaaDoorQ2
namespace Go.Proofs.YtfdhopkjblbkmaaDoor
open Go.RowKit

def z5 : List Value := [.int .i64 0, .string ⟨#[]⟩, .string ⟨#[]⟩, .string ⟨#[]⟩, .string ⟨#[]⟩]
def zs5 : Nat → List Value
  | 0 => []
  | m + 1 => z5 ++ zs5 m
theorem zs5_len (m : Nat) : (zs5 m).length = m * 5 := by
  induction m with
  | zero => rfl
  | succ m ih => simp [zs5, z5, ih]; omega
theorem zs5_get (m i : Nat) (h : i < m * 5) : (zs5 m)[i]? = z5[i % 5]? := by
  induction m generalizing i with
  | zero => omega
  | succ m ih =>
    unfold zs5
    by_cases h5 : i < 5
    · rw [List.getElem?_append_left (by simpa [z5] using h5), Nat.mod_eq_of_lt h5]
    · rw [List.getElem?_append_right (by simp [z5]; omega), show z5.length = 5 from rfl, ih (i - 5) (by omega)]
      congr 1
      omega
theorem made_five (n : Nat) : madeCells #[Value.int .i64 0, .string ⟨#[]⟩, .string ⟨#[]⟩, .string ⟨#[]⟩, .string ⟨#[]⟩] (n * 5) = (zs5 n).toArray := by
  unfold madeCells
  apply Array.ext
  · simp [zs5_len]
  · intro i h1 h2
    simp at h1
    have hz := zs5_get n i h1
    have hlt : i < (zs5 n).length := by rw [zs5_len]; exact h1
    rw [List.getElem?_eq_getElem hlt] at hz
    have h5 : i % 5 = 0 ∨ i % 5 = 1 ∨ i % 5 = 2 ∨ i % 5 = 3 ∨ i % 5 = 4 := by omega
    rcases h5 with h | h | h | h | h <;> simp [h, z5] at hz ⊢ <;> rw [hz]
theorem set_five (X : List Value) (k m : Nat) (hX : X.length = k * 5) (c0 c1 c2 c3 c4 : Value) : (((((X ++ zs5 (m + 1)).set (k * 5) c0).set (k * 5 + 1) c1).set (k * 5 + 2) c2).set (k * 5 + 3) c3).set (k * 5 + 4) c4 = (X ++ [c0, c1, c2, c3, c4]) ++ zs5 m := by
  rw [List.set_append_right _ _ (by omega), List.set_append_right _ _ (by omega), List.set_append_right _ _ (by omega), List.set_append_right _ _ (by omega), List.set_append_right _ _ (by omega), hX, List.append_assoc]
  simp [zs5, z5, Nat.add_sub_cancel_left]
theorem get_five (X : List Value) (k m j : Nat) (hX : X.length = k * 5) (hj : j < 5) : (X ++ zs5 (m + 1))[k * 5 + j]? = z5[j]? := by
  rw [List.getElem?_append_right (by omega), hX, Nat.add_sub_cancel_left, zs5, List.getElem?_append_left (by simpa [z5] using hj)]
theorem info83 : (Tryd.prog.info? 37).map (fun i => (i.zero, i.size, i.bytes)) = some (some (.agg #[.int .i64 0, .string ⟨#[]⟩, .string ⟨#[]⟩, .string ⟨#[]⟩, .string ⟨#[]⟩]), 5, 72) := by kernel_rfl
/-- the cells of entries -/
def entsV : List AE → List Value
  | [] => []
  | u :: us => [Value.int .i64 u.seq, .string u.ten, .string u.wha, .string u.det, .string u.sum] ++ entsV us
theorem entsV_len (us : List AE) : (entsV us).length = us.length * 5 := by
  induction us with
  | nil => rfl
  | cons u us ih => simp [entsV, ih]; omega
theorem entsV_app (a b : List AE) : entsV (a ++ b) = entsV a ++ entsV b := by
  induction a with
  | nil => rfl
  | cons u us ih => simp [entsV, ih]
theorem entsV_get (us : List AE) : ∀ j (h : j < us.length), (entsV us)[j * 5]? = some (.int .i64 us[j].seq) ∧ (entsV us)[j * 5 + 1]? = some (.string us[j].ten) ∧ (entsV us)[j * 5 + 2]? = some (.string us[j].wha) ∧ (entsV us)[j * 5 + 3]? = some (.string us[j].det) ∧ (entsV us)[j * 5 + 4]? = some (.string us[j].sum) := by
  induction us with
  | nil => intro j h; simp at h
  | cons u us ih =>
    intro j h
    cases j with
    | zero => simp [entsV]
    | succ j =>
      have := ih j (by simpa using h)
      simp only [entsV]
      have e : ∀ k, (j + 1) * 5 + k = 5 + (j * 5 + k) := fun k => by omega
      have e0 : (j + 1) * 5 = 5 + j * 5 := by omega
      rw [e, e, e, e, e0]
      have g : ∀ k, ([Value.int .i64 u.seq, .string u.ten, .string u.wha, .string u.det, .string u.sum] ++ entsV us)[5 + k]? = (entsV us)[k]? := fun k => by
        rw [List.getElem?_append_right (by simp)]
        simp
      rw [g, g, g, g, g]
      simpa using this
theorem Blk.ents {w : World} {g : Nat} {t : TypeId} {us : List AE} (h : Blk w g t (entsV us)) : ELies w g (some ⟨g, 0, none⟩) us := by
  refine .inr ⟨g, 0, rfl, Nat.le_refl _, fun j hj => ?_⟩
  obtain ⟨a, b, c, d, e⟩ := entsV_get us j hj
  rw [Nat.zero_add]
  exact ⟨h.cell a, h.cell b, h.cell c, h.cell d, h.cell e⟩

set_option maxRecDepth 100000 in
set_option maxHeartbeats 1000000 in
theorem toEntries_any (w : World) (base : Nat) (us : List AE) (ao : Option Addr) (cap : Nat) (hl : ELies w base ao us) (hn : us.length ≤ 1048576) (W0 : World) (hW0 : w.grownBy W0 none) :
    Calls Tryd.prog 8 #[.slice ao us.length cap] W0 fun e w' => e = .returned (.slice (some ⟨W0.heap.size, 0, none⟩) us.length us.length) ∧ Blk w' W0.heap.size 37 (entsV us) ∧ W0.grownBy w' none := by
  have HP := Lib.hid hl
  have HW := Lib.hid hW0
  clear hl hW0
  obtain ⟨i83, hi83, hz0, hz1, hz2⟩ := info_parts info83
  have hmk : ∀ W : World, (Instr.makeSlice 24 (.int .i64 (us.length : Int)) (.int .i64 (us.length : Int))).run Tryd.prog W = .ok (.slice (some ⟨W.heap.size, 0, none⟩) us.length us.length) (W.alloc (.cells (madeCells #[Value.int .i64 0, .string ⟨#[]⟩, .string ⟨#[]⟩, .string ⟨#[]⟩, .string ⟨#[]⟩] (us.length * 5)) 37)) := fun W => by
    have := run_make (P := Tryd.prog) W 24 37 i83 (.agg #[Value.int .i64 0, .string ⟨#[]⟩, .string ⟨#[]⟩, .string ⟨#[]⟩, .string ⟨#[]⟩]) Tryd.underlying24 hi83 hz0 .i64 .i64 us.length (us.length : Int) (by omega) (by omega) (by rw [hz2]; omega) (by omega)
    rw [this, hz1, show ((us.length : Int)).toNat = us.length from by omega]
    simp [Value.cells]
  have HB0 := Lib.hid (show Blk (W0.alloc (.cells (madeCells #[Value.int .i64 0, .string ⟨#[]⟩, .string ⟨#[]⟩, .string ⟨#[]⟩, .string ⟨#[]⟩] (us.length * 5)) 37)) W0.heap.size 37 (entsV (us.take 0) ++ zs5 (us.length - 0)) from by
    rw [made_five, Nat.sub_zero]
    exact Blk.new W0 37 _)
  go_enter Tryd.func8, Tryd.ntmps8
  go_wp2
  go_loopw [4] (fun i wr => ∃ k : Nat, k ≤ us.length ∧ i = .int .i64 k ∧ Blk wr W0.heap.size 37 (entsV (us.take k) ++ zs5 (us.length - k)) ∧ W0.grownBy wr none) (fun i _ => us.length - (intOf i).toNat)
  case atStart => exact ⟨0, Nat.zero_le _, rfl, HB0.out, grown_alloc (grown_refl _ _) _⟩
  case round =>
    obtain ⟨k, hk, rfl, hb, hg⟩ := hrel
    have HC := Lib.hid hb
    have HG := Lib.hid hg
    clear hb hg HB0
    by_cases hlt : k < us.length
    · rcases HP.out with h00 | ⟨b, o, rfl, -, hc⟩
      · omega
      have HGW := Lib.hid (grown_trans HW.out HG.out)
      obtain ⟨d0, d1, d2, d3, d4⟩ := (hc k hlt).kept HGW.out (by simp)
      have HTK := Lib.hid (show us.take (k + 1) = us.take k ++ [us[k]] from List.take_succ_eq_append_getElem hlt)
      generalize us[k] = u at d0 d1 d2 d3 d4 HTK
      have HCA := Lib.hid (toEntry_any wr u)
      have hkI : (k : Int) < us.length := by omega
      clear hc
      go_wp2_with fail
      refine HCA.out.mono ?_
      rintro e w1 ⟨rfl, hg1⟩
      have hbx := HC.out.kept hg1 (by simp)
      have hm1 : us.length - k = (us.length - (k + 1)) + 1 := by omega
      rw [hm1] at hbx
      have hX : (entsV (us.take k)).length = k * 5 := by rw [entsV_len]; simp; omega
      have HBK := Lib.hid hbx
      have HG1 := Lib.hid (grown_trans HG.out hg1)
      have e0 : w1.cell? ⟨W0.heap.size, k * 5, none⟩ = some (.int .i64 0) := hbx.cell (get_five _ k _ 0 hX (by decide))
      have e1 : w1.cell? ⟨W0.heap.size, k * 5 + 1, none⟩ = some (.string ⟨#[]⟩) := hbx.cell (get_five _ k _ 1 hX (by decide))
      have e2 : w1.cell? ⟨W0.heap.size, k * 5 + 2, none⟩ = some (.string ⟨#[]⟩) := hbx.cell (get_five _ k _ 2 hX (by decide))
      have e3 : w1.cell? ⟨W0.heap.size, k * 5 + 3, none⟩ = some (.string ⟨#[]⟩) := hbx.cell (get_five _ k _ 3 hX (by decide))
      have e4 : w1.cell? ⟨W0.heap.size, k * 5 + 4, none⟩ = some (.string ⟨#[]⟩) := hbx.cell (get_five _ k _ 4 hX (by decide))
      have f0 := hbx.frozen (k * 5)
      have f1 := hbx.frozen (k * 5 + 1)
      have f2 := hbx.frozen (k * 5 + 2)
      have f3 := hbx.frozen (k * 5 + 3)
      have f4 := hbx.frozen (k * 5 + 4)
      have HXX := Lib.hid hX
      clear hg1 hbx HCA d0 d1 d2 d3 d4 HC hm1 hX
      go_wp2
      go_roundw
      case rel =>
        have hgs : w1.grownBy _ (some W0.heap.size) := grown_set (grown_set (grown_set (grown_set (grown_set (grown_refl w1 _) (k * 5) (.int .i64 u.seq)) (k * 5 + 1) (.string u.ten)) (k * 5 + 2) (.string u.wha)) (k * 5 + 3) (.string u.det)) (k * 5 + 4) (.string u.sum)
        refine ⟨k + 1, by omega, by go_num, ?_, grown_into HG1.out hgs (Nat.le_refl _)⟩
        have := ((((HBK.out.set (k * 5) (.int .i64 u.seq)).set (k * 5 + 1) (.string u.ten)).set (k * 5 + 2) (.string u.wha)).set (k * 5 + 3) (.string u.det)).set (k * 5 + 4) (.string u.sum)
        rw [set_five _ k _ HXX.out] at this
        rw [HTK.out, entsV_app]
        simpa [entsV] using this
      case measure => simp [intOf]; omega
    · obtain rfl : k = us.length := by omega
      have hfin := HC.out
      rw [Nat.sub_self, List.take_length] at hfin
      have HF := Lib.hid (show Blk wr W0.heap.size 37 (entsV us) from by simpa [zs5] using hfin)
      clear hfin
      go_wp2
      go_ret
      exact ⟨rfl, HF.out, HG.out⟩
end Go.Proofs.YtfdhopkjblbkmaaDoor
