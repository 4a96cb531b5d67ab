/- Numbers as they are written: what may be read of a text. No program is named here. -/
import Derived.Test.YtecekbhkombnnaaGreatDoorDN
import Derived.Test.YtecekbhkombnnaaGreatDoorCB
namespace Go.Proofs.YtecekbhkombnnaaGreatDoor

/-- a number as it is written -/
def decI (n : Int) : ByteArray := ⟨(Lib.itoa n).toArray⟩
def decN (n : Nat) : ByteArray := ⟨(Lib.decDigits n).toArray⟩
theorem decN_list (n : Nat) : (decN n).data.toList = Lib.decDigits n := by unfold decN; simp
theorem decI_list (n : Int) : (decI n).data.toList = Lib.itoa n := by unfold decI; simp
theorem decN_size (n : Nat) : (decN n).size = (Lib.decDigits n).length := by
  show ((Lib.decDigits n).toArray).size = _
  simp
theorem decI_nat (n : Nat) : decI (n : Int) = decN n := by
  unfold decI decN Lib.itoa
  rw [if_neg (by omega)]
  rfl
theorem decN_size1 (n : Nat) : 1 ≤ (decN n).size := by
  rw [decN_size]
  have := dec_ne n
  have : 0 < (Lib.decDigits n).length := List.length_pos_iff.2 this
  omega
theorem decN_size6 (n : Nat) (h : n ≤ 999999) : (decN n).size ≤ 6 := by rw [decN_size]; exact dec_len6 n h
theorem decN_fig (n : Nat) (k : Nat) (h : k < (decN n).size) : 48 ≤ (decN n)[k].toNat ∧ (decN n)[k].toNat ≤ 57 := by
  have := dataB_get (decN n) k h
  rw [decN_list] at this
  exact dec_figure n _ (List.mem_of_getElem? this)
theorem decN_head (n : Nat) (h0 : 0 < n) (h : 0 < (decN n).size) : (decN n)[0].toNat ≠ 48 := by
  have e := dataB_get (decN n) 0 h
  obtain ⟨c, r, hc, h49⟩ := dec_head n h0
  rw [decN_list, hc] at e
  have e2 : c = (decN n)[0] := Option.some.inj e
  rw [← e2]; omega
theorem decN_free (c : UInt8) (hc : c.toNat < 48 ∨ 57 < c.toNat) (n : Nat) : Free c (decN n) := by
  intro h
  rw [decN_list] at h
  have := dec_figure n c h
  omega
theorem decN_inj {a b : Nat} (ha : a ≤ 9223372036854775807) (hb : b ≤ 9223372036854775807) (h : decN a = decN b) : a = b := by
  have := itoa_inj (a := a) (b := b) (by omega) (by omega) (by omega) (by omega) (by rw [← decI_list, ← decI_list, decI_nat, decI_nat, h])
  omega
theorem decI_inj {a b : Int} (ha0 : -9223372036854775808 ≤ a) (ha1 : a ≤ 9223372036854775807) (hb0 : -9223372036854775808 ≤ b) (hb1 : b ≤ 9223372036854775807) (h : decI a = decI b) : a = b :=
  itoa_inj ha0 ha1 hb0 hb1 (by rw [← decI_list, ← decI_list, h])

/-- what the document takes of a text as a number -/
def NumIs (s : ByteArray) (n : Int) (b : Bool) : Prop := (b = true ∧ s = decI n ∧ -999999 ≤ n ∧ n ≤ 999999) ∨ (b = false ∧ n = 0 ∧ ∀ m : Int, -999999 ≤ m → m ≤ 999999 → s ≠ decI m)
/-- what the program takes of a text as a number -/
def DecIs (s : ByteArray) (n : Int) (b : Bool) : Prop := (b = true ∧ s = decI n ∧ -9223372036854775808 ≤ n ∧ n ≤ 9223372036854775807) ∨ (b = false ∧ n = 0 ∧ ∀ m : Int, -9223372036854775808 ≤ m → m ≤ 9223372036854775807 → s ≠ decI m)
theorem NumIs.of_dec {s : ByteArray} {n m : Int} {b : Bool} (h : NumIs s n b) (h0 : -999999 ≤ m) (h1 : m ≤ 999999) (e : s = decI m) : n = m ∧ b = true := by
  rcases h with ⟨hb, hs, a0, a1⟩ | ⟨-, -, h⟩
  · exact ⟨decI_inj (by omega) (by omega) (by omega) (by omega) (hs.symm.trans e), hb⟩
  · exact absurd e (h m h0 h1)
theorem DecIs.of_dec {s : ByteArray} {n m : Int} {b : Bool} (h : DecIs s n b) (h0 : -9223372036854775808 ≤ m) (h1 : m ≤ 9223372036854775807) (e : s = decI m) : n = m ∧ b = true := by
  rcases h with ⟨hb, hs, a0, a1⟩ | ⟨-, -, h⟩
  · exact ⟨decI_inj (by omega) (by omega) (by omega) (by omega) (hs.symm.trans e), hb⟩
  · exact absurd e (h m h0 h1)
/-- a number below 0 begins with a stroke -/
def NegT (s : ByteArray) : Prop := ∃ h : 1 < s.size, (s[0]'(by omega)).toNat = 45
theorem neg_split (s : ByteArray) (m : Int) (e : s = decI m) : (NegT s ∧ s.extract 1 s.size = decN m.natAbs ∧ m < 0) ∨ (¬ NegT s ∧ s = decN m.natAbs ∧ 0 ≤ m) := by
  subst e
  by_cases hm : m < 0
  · have hl : (decI m).data.toList = 45 :: Lib.decDigits m.natAbs := by rw [decI_list]; unfold Lib.itoa; rw [if_pos hm]
    have hs : (decI m).size = 1 + (decN m.natAbs).size := by
      have h1 : (decI m).data.toList.length = (decI m).size := by simp
      rw [hl, List.length_cons, ← decN_size] at h1
      omega
    have h1 := decN_size1 m.natAbs
    refine .inl ⟨⟨by omega, ?_⟩, ?_, hm⟩
    · have e := dataB_get (decI m) 0 (by omega)
      rw [hl] at e
      rw [← Option.some.inj e]
      rfl
    · apply bytes_ext
      rw [extract_list, hl, decN_list, hs]
      show (Lib.decDigits m.natAbs).take _ = _
      rw [List.take_of_length_le]
      rw [decN_size]; omega
  · have hl : decI m = decN m.natAbs := by
      unfold decI decN Lib.itoa
      rw [if_neg hm, show m.toNat = m.natAbs by omega]
    refine .inr ⟨?_, hl, by omega⟩
    rintro ⟨h1, h2⟩
    have hf : 48 ≤ ((decI m)[0]'(by omega)).toNat := by
      have e := List.mem_of_getElem? (dataB_get (decI m) 0 (by omega))
      have e3 : (decI m).data.toList = Lib.decDigits m.natAbs := by rw [hl, decN_list]
      have := dec_figure m.natAbs ((decI m)[0]'(by omega)) (by rw [← e3]; exact e)
      omega
    omega
/-- one figure more -/
theorem dec_step (d : ByteArray) (k n x : Nat) (hk : k < d.size) (hx : d[k].toNat = x) (h1 : 48 ≤ x) (h2 : x ≤ 57) (hp : 1 ≤ k → Lib.decDigits n = d.data.toList.take k) (h0 : k = 0 → n = 0) (hl : 1 < d.size → (d[0]'(by omega)).toNat ≠ 48) :
    Lib.decDigits (n * 10 + (x - 48)) = d.data.toList.take (k + 1) := by
  have hl2 : d.data.toList.length = d.size := by simp
  have hsn : d.data.toList.take (k + 1) = d.data.toList.take k ++ [d[k]] := by
    rw [List.take_succ_eq_append_getElem (by omega)]
    have := dataB_get d k hk
    rw [List.getElem?_eq_getElem (by omega)] at this
    rw [Option.some.inj this]
  have hof : UInt8.ofNat (48 + (x - 48)) = d[k] := by
    apply UInt8.toNat_inj.1
    rw [fig_nat _ (by omega), hx]; omega
  by_cases hk0 : k = 0
  · subst hk0
    rw [h0 rfl, hsn, dec_one _ (by omega)]
    simp only [List.take_zero, List.nil_append]
    rw [show 0 * 10 + (x - 48) = x - 48 by omega, hof]
  · have hp := hp (by omega)
    have hn : n ≠ 0 := by
      rintro rfl
      rw [dec_one 0 (by omega)] at hp
      have hlen := congrArg List.length hp
      rw [List.length_take, hl2] at hlen
      simp only [List.length_singleton] at hlen
      refine hl (by omega) ?_
      have e := dataB_get d 0 (by omega)
      have e2 : (d.data.toList.take k)[0]? = d.data.toList[0]? := by rw [List.getElem?_take, if_pos (by omega)]
      rw [← hp, e] at e2
      rw [← Option.some.inj e2]
      rfl
    rw [dec_snoc _ (by omega), hsn, ← hp, show (n * 10 + (x - 48)) / 10 = n by omega, show (n * 10 + (x - 48)) % 10 = x - 48 by omega, hof]
end Go.Proofs.YtecekbhkombnnaaGreatDoor
