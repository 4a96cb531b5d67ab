/- A text cut at the first of a byte. No program is named here. -/
import Derived.Lib.IndexLaws
namespace Go.Proofs.YtecekbhkombnnaaGreatDoor

/-- where the first byte c is; -1 -/
def atB (c : UInt8) (p : ByteArray) : Int := Lib.indexByte p.data.toList c
/-- what stands ahead of the first c; all, if there is none -/
def headB (c : UInt8) (p : ByteArray) : ByteArray := if 0 ≤ atB c p then p.extract 0 (atB c p).toNat else p
/-- what stands behind the first c; nothing, if there is none -/
def restB (c : UInt8) (p : ByteArray) : ByteArray := if 0 ≤ atB c p then p.extract ((atB c p).toNat + 1) p.size else ⟨#[]⟩
theorem atB_ge (c : UInt8) (p : ByteArray) : -1 ≤ atB c p := Lib.indexByte_ge _ _
theorem dataB_get (p : ByteArray) (k : Nat) (h : k < p.size) : p.data.toList[k]? = some p[k] := by
  have h2 : k < p.data.size := h
  rw [Array.getElem?_toList, Array.getElem?_eq_getElem h2]
  rfl
theorem atB_some (c : UInt8) (p : ByteArray) (k : Nat) (h : atB c p = k) : ∃ hk : k < p.size, p[k].toNat = c.toNat ∧ ∀ j (hj : j < p.size), j < k → p[j].toNat ≠ c.toNat := by
  obtain ⟨h1, h2⟩ := Lib.indexByte_some h
  have hk : k < p.size := by
    have := (List.getElem?_eq_some_iff.1 h1).1
    simpa using this
  rw [dataB_get p k hk] at h1
  refine ⟨hk, by rw [Option.some.inj h1], fun j hj hjk e => h2 j hjk ?_⟩
  rw [dataB_get p j hj]
  exact congrArg some (UInt8.toNat_inj.1 e)
theorem atB_none (c : UInt8) (p : ByteArray) (h : atB c p = -1) : ∀ j (hj : j < p.size), p[j].toNat ≠ c.toNat := fun j hj e => by
  refine Lib.indexByte_none h j ?_
  rw [dataB_get p j hj]
  exact congrArg some (UInt8.toNat_inj.1 e)
theorem atB_at (c : UInt8) (p : ByteArray) (k : Nat) (hk : k < p.size) (h1 : p[k].toNat = c.toNat) (h2 : ∀ j (hj : j < p.size), j < k → p[j].toNat ≠ c.toNat) : atB c p = k := by
  have hg := atB_ge c p
  rcases (show atB c p < 0 ∨ 0 ≤ atB c p by omega) with h | h
  · exact absurd h1 (atB_none c p (by omega) k hk)
  · obtain ⟨o, ho⟩ : ∃ o : Nat, atB c p = o := ⟨(atB c p).toNat, by omega⟩
    obtain ⟨hk2, h3, h4⟩ := atB_some c p o ho
    rcases Nat.lt_trichotomy o k with hh | hh | hh
    · exact absurd h3 (h2 o hk2 hh)
    · rw [ho, hh]
    · exact absurd h1 (h4 k hk hh)
theorem atB_no (c : UInt8) (p : ByteArray) (h : ∀ j (hj : j < p.size), p[j].toNat ≠ c.toNat) : atB c p = -1 := by
  have hg := atB_ge c p
  rcases (show atB c p < 0 ∨ 0 ≤ atB c p by omega) with h2 | h2
  · omega
  · obtain ⟨o, ho⟩ : ∃ o : Nat, atB c p = o := ⟨(atB c p).toNat, by omega⟩
    obtain ⟨hk2, h3, h4⟩ := atB_some c p o ho
    exact absurd h3 (h o hk2)
theorem headB_at (c : UInt8) (p : ByteArray) (k : Nat) (h : atB c p = k) : headB c p = p.extract 0 k := by
  unfold headB
  rw [h, if_pos (by omega)]
  rfl
theorem restB_at (c : UInt8) (p : ByteArray) (k : Nat) (h : atB c p = k) : restB c p = p.extract (k + 1) p.size := by
  unfold restB
  rw [h, if_pos (by omega)]
  rfl
theorem headB_none (c : UInt8) (p : ByteArray) (h : atB c p = -1) : headB c p = p := by
  unfold headB
  rw [h, if_neg (by omega)]
theorem restB_none (c : UInt8) (p : ByteArray) (h : atB c p = -1) : restB c p = ⟨#[]⟩ := by
  unfold restB
  rw [h, if_neg (by omega)]
theorem headB_size (c : UInt8) (p : ByteArray) : (headB c p).size ≤ p.size := by
  unfold headB
  split
  · rw [ByteArray.size_extract]; omega
  · exact Nat.le_refl _
theorem restB_size (c : UInt8) (p : ByteArray) : (restB c p).size ≤ p.size := by
  unfold restB
  split
  · rw [ByteArray.size_extract]; omega
  · exact Nat.zero_le _
/-- no byte of a text is c -/
def Free (c : UInt8) (p : ByteArray) : Prop := c ∉ p.data.toList
theorem one_size (c : UInt8) : (⟨#[c]⟩ : ByteArray).size = 1 := rfl
theorem atB_get (c : UInt8) (p : ByteArray) (k : Nat) (h1 : p.data.toList[k]? = some c) (h2 : ∀ j, j < k → p.data.toList[j]? ≠ some c) : atB c p = k := by
  have hk : k < p.size := by
    have := (List.getElem?_eq_some_iff.1 h1).1
    simpa using this
  refine atB_at c p k hk ?_ (fun j hj hjk e => h2 j hjk ?_)
  · rw [dataB_get p k hk] at h1
    rw [Option.some.inj h1]
  · rw [dataB_get p j hj]
    exact congrArg some (UInt8.toNat_inj.1 e)
theorem app_data (c : UInt8) (a b : ByteArray) : (a ++ ⟨#[c]⟩ ++ b).data.toList = a.data.toList ++ c :: b.data.toList := by
  rw [ByteArray.data_append, ByteArray.data_append]
  simp
theorem atB_app (c : UInt8) (a b : ByteArray) (ha : Free c a) : atB c (a ++ ⟨#[c]⟩ ++ b) = a.size := by
  have hl : a.data.toList.length = a.size := by simp
  refine atB_get c _ a.size ?_ (fun j hj e => ?_)
  · rw [app_data, List.getElem?_append_right (by omega), hl, Nat.sub_self]
    rfl
  · rw [app_data, List.getElem?_append_left (by omega)] at e
    exact ha (List.mem_of_getElem? e)
theorem extract_list (p : ByteArray) (n m : Nat) : (p.extract n m).data.toList = (p.data.toList.drop n).take (m - n) := by
  rw [ByteArray.data_extract, Array.toList_extract, List.extract_eq_take_drop]
theorem bytes_ext {a b : ByteArray} (h : a.data.toList = b.data.toList) : a = b := ByteArray.ext (Array.ext' h)
theorem headB_app (c : UInt8) (a b : ByteArray) (ha : Free c a) : headB c (a ++ ⟨#[c]⟩ ++ b) = a := by
  rw [headB_at c _ a.size (atB_app c a b ha)]
  apply bytes_ext
  rw [extract_list, app_data]
  have hl : a.data.toList.length = a.size := by simp
  rw [← hl]
  simp
theorem restB_app (c : UInt8) (a b : ByteArray) (ha : Free c a) : restB c (a ++ ⟨#[c]⟩ ++ b) = b := by
  rw [restB_at c _ a.size (atB_app c a b ha)]
  apply bytes_ext
  have hs : (a ++ ⟨#[c]⟩ ++ b).size = a.size + 1 + b.size := by rw [ByteArray.size_append, ByteArray.size_append, one_size]
  rw [extract_list, app_data, hs]
  have hl : a.data.toList.length = a.size := by simp
  have hb : b.data.toList.length = b.size := by simp
  rw [show a.size + 1 = (a.data.toList ++ [c]).length by simp, show a.data.toList ++ c :: b.data.toList = (a.data.toList ++ [c]) ++ b.data.toList by simp, List.drop_left]
  rw [List.take_of_length_le]
  rw [List.length_append, hl, hb]
  simp
theorem free_iff (c : UInt8) (p : ByteArray) : Free c p ↔ atB c p = -1 := by
  constructor
  · intro h
    refine atB_no c p (fun j hj e => h ?_)
    have := dataB_get p j hj
    rw [UInt8.toNat_inj.1 e] at this
    exact List.mem_of_getElem? this
  · intro h hm
    obtain ⟨j, hj, e⟩ := List.mem_iff_getElem.1 hm
    have hj2 : j < p.size := by simpa using hj
    refine atB_none c p h j hj2 ?_
    have e3 := dataB_get p j hj2
    rw [List.getElem?_eq_getElem hj, e] at e3
    rw [← Option.some.inj e3]
/-- a text that is cut is put together again -/
theorem cutB_join (c : UInt8) (p : ByteArray) (h : 0 ≤ atB c p) : p = headB c p ++ ⟨#[c]⟩ ++ restB c p := by
  obtain ⟨k, hk⟩ : ∃ k : Nat, atB c p = k := ⟨(atB c p).toNat, by omega⟩
  obtain ⟨hk2, h3, -⟩ := atB_some c p k hk
  rw [headB_at c p k hk, restB_at c p k hk]
  apply bytes_ext
  rw [app_data, extract_list, extract_list]
  have h4 : p.data.toList[k]? = some c := by rw [dataB_get p k hk2]; exact congrArg some (UInt8.toNat_inj.1 h3)
  obtain ⟨h5, h6⟩ := List.getElem?_eq_some_iff.1 h4
  have hl : p.data.toList.length = p.size := by simp
  rw [Nat.sub_zero, List.drop_zero, List.take_of_length_le (l := List.drop (k + 1) p.data.toList) (by rw [List.length_drop]; omega), ← h6, List.getElem_cons_drop, List.take_append_drop]
theorem headB_free (c : UInt8) (p : ByteArray) : Free c (headB c p) := by
  by_cases h0 : 0 ≤ atB c p
  · obtain ⟨k, hk⟩ : ∃ k : Nat, atB c p = k := ⟨(atB c p).toNat, by omega⟩
    obtain ⟨hk2, h3, h4⟩ := atB_some c p k hk
    intro h
    rw [headB_at c p k hk, extract_list, List.drop_zero, Nat.sub_zero] at h
    obtain ⟨j, hj, e⟩ := List.mem_iff_getElem.1 h
    rw [List.length_take] at hj
    rw [List.getElem_take] at e
    have hl : p.data.toList.length = p.size := by simp
    have hlt : j < p.size := by omega
    refine h4 j hlt (by omega) ?_
    have e3 := dataB_get p j hlt
    rw [List.getElem?_eq_getElem (by omega), e] at e3
    rw [← Option.some.inj e3]
  · have hn : atB c p = -1 := by have := atB_ge c p; omega
    rw [headB_none c p hn]
    exact (free_iff c p).2 hn
end Go.Proofs.YtecekbhkombnnaaGreatDoor
