/- Texts that hold a byte that is hidden, or a quote; no program is named but where the walk of the predicate stands. -/
import Derived.Test.YtgmigloafcejdaaGreatDoorU7
import Derived.Shelf.GgClosure.StringsIndexFuncTop
import Derived.Shelf.Strings.Search3
import Derived.Lib.IndexAny
import Derived.Shelf.Lay
import Derived.Ground.GgwProg
import Derived.Ground.NamesProg
import Derived.Laws.RangeAny
namespace Go.Proofs.YtgmigloafcejdaaGreatDoor
open Go.RowKit

/-- not one of the bytes 32 to 126 -/
def hidR (r : Nat) : Bool := decide ((r : Int) < 32) || decide ((126 : Int) < (r : Int))

theorem hidFrom (s : ByteArray) : ∀ (f pos : Nat), s.size ≤ pos + f → (0 ≤ Lib.idxFuncFrom hidR true s f pos ↔ ∃ i, ∃ h : i < s.size, pos ≤ i ∧ ¬ (32 ≤ s[i].toNat ∧ s[i].toNat ≤ 126))
  | 0, pos, hf => by
    simp only [Lib.idxFuncFrom]
    constructor
    · intro h; omega
    · rintro ⟨i, h, h1, -⟩; omega
  | f + 1, pos, hf => by
    unfold Lib.idxFuncFrom
    by_cases hp : pos < s.size
    · rw [if_pos hp]
      by_cases ha : (s[pos]'hp).toNat < 128
      · have hd := decode_ascii s pos hp ha
        rw [hd]
        by_cases hb : 32 ≤ (s[pos]'hp).toNat ∧ (s[pos]'hp).toNat ≤ 126
        · have hr : ¬ hidR (s[pos]'hp).toNat = true := by
            unfold hidR
            simp only [Bool.or_eq_true, decide_eq_true_eq]
            omega
          rw [if_neg hr, hidFrom s f (pos + 1) (by omega)]
          constructor
          · rintro ⟨i, h, h1, h2⟩
            exact ⟨i, h, by omega, h2⟩
          · rintro ⟨i, h, h1, h2⟩
            refine ⟨i, h, ?_, h2⟩
            rcases Nat.lt_or_ge pos i with h3 | h3
            · omega
            · have e : i = pos := by omega
              subst e
              exact absurd hb h2
        · have hr : hidR (s[pos]'hp).toNat = true := by
            unfold hidR
            simp only [Bool.or_eq_true, decide_eq_true_eq]
            omega
          rw [if_pos hr]
          exact ⟨fun _ => ⟨pos, hp, Nat.le_refl _, hb⟩, fun _ => by omega⟩
      · have hd := decode_high s pos hp (by omega)
        have hr : hidR (Utf8.decode s pos).1 = true := by
          unfold hidR
          simp only [Bool.or_eq_true, decide_eq_true_eq]
          omega
        rw [if_pos hr]
        exact ⟨fun _ => ⟨pos, hp, Nat.le_refl _, fun h => by omega⟩, fun _ => by omega⟩
    · rw [if_neg hp]
      constructor
      · intro h; omega
      · rintro ⟨i, h, h1, -⟩; omega

theorem hid_iff (s : ByteArray) : 0 ≤ Lib.idxFunc hidR true s ↔ ∃ i, ∃ h : i < s.size, ¬ (32 ≤ s[i].toNat ∧ s[i].toNat ≤ 126) := by
  unfold Lib.idxFunc
  rw [hidFrom s s.size 0 (by omega)]
  constructor
  · rintro ⟨i, h, -, h2⟩; exact ⟨i, h, h2⟩
  · rintro ⟨i, h, h2⟩; exact ⟨i, h, Nat.zero_le _, h2⟩

theorem quote_iff (t : ByteArray) : decide (0 ≤ Lib.indexByte t.data.toList 34) = true ↔ ∃ i, ∃ h : i < t.size, t[i].toNat = 34 := by
  rw [← Lib.contains_iff_indexByte, List.contains_iff_exists_mem_beq]
  constructor
  · rintro ⟨b, hb, he⟩
    obtain ⟨i, hi, hx⟩ := List.mem_iff_getElem.1 hb
    refine ⟨i, by simpa using hi, ?_⟩
    have e : b = 34 := (beq_iff_eq.1 he).symm
    have e2 : t[i]'(by simpa using hi) = b := by rw [← hx]; simp [ByteArray.getElem_eq_getElem_data]
    rw [e2, e]; rfl
  · rintro ⟨i, hi, hx⟩
    refine ⟨t[i], ?_, ?_⟩
    · exact List.mem_iff_getElem.2 ⟨i, by simpa using hi, by simp [ByteArray.getElem_eq_getElem_data]⟩
    · rw [beq_iff_eq]
      exact (UInt8.toNat_inj.1 (by rw [hx]; rfl)).symm

theorem textOk_parts (t : ByteArray) : TextOk t ↔ t.size ≤ 16 ∧ decide (0 ≤ Lib.indexByte t.data.toList 34) = false ∧ decide (0 ≤ Lib.idxFunc hidR true t) = false := by
  rw [← Bool.not_eq_true, quote_iff, decide_eq_false_iff_not, hid_iff]
  constructor
  · rintro ⟨h, hs⟩
    refine ⟨hs, ?_, ?_⟩
    · rintro ⟨i, hi, hx⟩
      have := (h i hi).2.2
      omega
    · rintro ⟨i, hi, hx⟩
      exact hx ⟨(h i hi).1, (h i hi).2.1⟩
  · rintro ⟨hs, h1, h2⟩
    refine ⟨fun k hk => ?_, hs⟩
    have q1 : ¬ t[k].toNat = 34 := fun e => h1 ⟨k, hk, e⟩
    have q2 : 32 ≤ t[k].toNat ∧ t[k].toNat ≤ 126 := Classical.byContradiction fun e => h2 ⟨k, hk, e⟩
    exact ⟨q2.1, q2.2, q1⟩

set_option maxHeartbeats 1000000 in
theorem hidden_at (w : World) : PredAt Tryz.prog 124 #[] encR hidR w := fun W r _ => by
  unfold FnGives
  by_cases h1 : (r : Int) < 32
  · go_enter Tryz.func124, Tryz.ntmps124
    go_wp2
    go_ret
    exact ⟨by simp [hidR, h1], 0, rfl⟩
  · by_cases h2 : (126 : Int) < (r : Int)
    · go_enter Tryz.func124, Tryz.ntmps124
      go_wp2
      go_ret
      exact ⟨by simp [hidR, h2], 0, rfl⟩
    · go_enter Tryz.func124, Tryz.ntmps124
      go_wp2
      go_ret
      exact ⟨by simp [hidR, h1, h2], 0, rfl⟩
shelf_lay Lays.n144 Nm 144 at Tryz as Tryz.laysContains
shelf_lay LaysGw.n17 Ggw 17 at Tryz as Tryz.laysContainsFunc

set_option maxRecDepth 100000 in
set_option maxHeartbeats 2000000 in
theorem itextOk_any (w : World) (t : ByteArray) (_ht : t.size ≤ 1048576) : Calls Tryz.prog 98 #[.string t] w fun e w' => Says e (TextOk t) ∧ w.grownBy w' none := by
  have HP := Lib.hid (textOk_parts t)
  by_cases hs : (t.size : Int) ≤ 16
  case neg =>
    have HD := Lib.hid (show Says (.returned (.bool false)) (TextOk t) from .no (fun h => by have := h.2; omega))
    go_enter Tryz.func98, Tryz.ntmps98
    go_wp2
    go_ret
    exact ⟨HD.out, grown_refl _ _⟩
  have HS := Lib.hid (show t.size ≤ 16 by omega)
  have HC := Lib.hid (Any.strings_Contains_one Tryz.laysContains t 34 w)
  have HF := Lib.hid (Any.strings_ContainsFunc Tryz.laysContainsFunc 124 #[] (enters_of Tryz.func124 (by kernel_rfl) rfl) hidR t w (hidden_at w))
  cases h1 : decide (0 ≤ Lib.indexByte t.data.toList 34)
  case true =>
    have HD := Lib.hid (show Says (.returned (.bool false)) (TextOk t) from .no (fun h => by have := (HP.out.1 h).2.1; rw [h1] at this; cases this))
    have HCL := Lib.hid (show Calls Tryz.prog 122 #[.string t, .string ⟨#[34]⟩] w (fun e w' => e = .returned (.bool true) ∧ w' = w) from HC.out.mono fun e w' h => by rw [h1] at h; exact h)
    clear h1 HC HF
    go_enter Tryz.func98, Tryz.ntmps98
    go_wp2_with fail
    refine HCL.out.mono ?_
    rintro e w1 ⟨rfl, hw⟩
    have hw := hw.symm
    subst hw
    go_wp2
    go_ret
    exact ⟨HD.out, grown_refl _ _⟩
  have H1 := Lib.hid h1
  have HCL := Lib.hid (show Calls Tryz.prog 122 #[.string t, .string ⟨#[34]⟩] w (fun e w' => e = .returned (.bool false) ∧ w' = w) from HC.out.mono fun e w' h => by rw [h1] at h; exact h)
  clear h1 HC
  obtain ⟨b, hb⟩ : ∃ b, decide (0 ≤ Lib.idxFunc hidR true t) = b := ⟨_, rfl⟩
  have HFL := Lib.hid (show Calls Tryz.prog 123 #[.string t, .func (.func 124) #[] #[]] w (fun e w' => e = .returned (.bool b) ∧ w.grownBy w' none) from HF.out.mono fun e w' h => by rw [hb] at h; exact ⟨h.1, grown_of_below h.2 none⟩)
  have HD := Lib.hid (show Says (.returned (.bool (!b))) (TextOk t) from ⟨!b, rfl, by
    rw [HP.out, hb, H1.out]
    have := HS.out
    cases b <;> simp [this]⟩)
  clear HF hb
  go_enter Tryz.func98, Tryz.ntmps98
  go_wp2_with fail
  refine HCL.out.mono ?_
  rintro e w1 ⟨rfl, hw⟩
  have hw := hw.symm
  subst hw
  go_wp2_with fail
  refine HFL.out.mono ?_
  rintro e w2 ⟨rfl, hg⟩
  have HG := Lib.hid hg
  clear hg
  go_wp2
  go_ret
  exact ⟨HD.out, HG.out⟩
end Go.Proofs.YtgmigloafcejdaaGreatDoor
