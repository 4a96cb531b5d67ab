/- Pieces of a text, cut at a byte: joined again; cut in one way only. No program is named here. -/
import Derived.Test.YtecekbhkombnnaaGreatDoorCB
namespace Go.Proofs.YtecekbhkombnnaaGreatDoor

def joinB (c : UInt8) : List ByteArray → ByteArray
  | [] => ⟨#[]⟩
  | [p] => p
  | p :: q :: r => p ++ ⟨#[c]⟩ ++ joinB c (q :: r)
theorem joinB_cons (c : UInt8) (p : ByteArray) (L : List ByteArray) (h : L ≠ []) : joinB c (p :: L) = p ++ ⟨#[c]⟩ ++ joinB c L := by
  cases L with
  | nil => exact absurd rfl h
  | cons q r => rfl
theorem free_not (c : UInt8) (p q : ByteArray) (h : Free c (p ++ ⟨#[c]⟩ ++ q)) : False := by
  unfold Free at h
  rw [app_data] at h
  exact h (by simp)
theorem joinB_inj (c : UInt8) : ∀ L M : List ByteArray, L ≠ [] → M ≠ [] → (∀ p ∈ L, Free c p) → (∀ p ∈ M, Free c p) → joinB c L = joinB c M → L = M
  | [], _, h, _, _, _, _ => absurd rfl h
  | _ :: _, [], _, h, _, _, _ => absurd rfl h
  | [p], [q], _, _, _, _, h => by
    have h2 : p = q := h
    rw [h2]
  | [p], q :: r :: M, _, _, hL, _, h => by
    have h2 : p = q ++ ⟨#[c]⟩ ++ joinB c (r :: M) := h
    have h3 := hL p (by simp)
    rw [h2] at h3
    exact (free_not c _ _ h3).elim
  | p :: s :: L, [q], _, _, _, hM, h => by
    have h2 : p ++ ⟨#[c]⟩ ++ joinB c (s :: L) = q := h
    have h3 := hM q (by simp)
    rw [← h2] at h3
    exact (free_not c _ _ h3).elim
  | p :: s :: L, q :: r :: M, _, _, hL, hM, h => by
    have h2 : p ++ ⟨#[c]⟩ ++ joinB c (s :: L) = q ++ ⟨#[c]⟩ ++ joinB c (r :: M) := h
    have a1 := headB_app c p (joinB c (s :: L)) (hL p (by simp))
    have a2 := headB_app c q (joinB c (r :: M)) (hM q (by simp))
    have b1 := restB_app c p (joinB c (s :: L)) (hL p (by simp))
    have b2 := restB_app c q (joinB c (r :: M)) (hM q (by simp))
    rw [h2] at a1 b1
    have e1 : p = q := a1.symm.trans a2
    have e2 : joinB c (s :: L) = joinB c (r :: M) := b1.symm.trans b2
    have e3 := joinB_inj c (s :: L) (r :: M) (by simp) (by simp) (fun x hx => hL x (List.mem_cons_of_mem _ hx)) (fun x hx => hM x (List.mem_cons_of_mem _ hx)) e2
    rw [e1, e3]
theorem nilB_app (p : ByteArray) : (⟨#[]⟩ : ByteArray) ++ p = p := bytes_ext (by simp [ByteArray.data_append])
theorem appB_nil (p : ByteArray) : p ++ (⟨#[]⟩ : ByteArray) = p := bytes_ext (by simp [ByteArray.data_append])
theorem app3_data (c : UInt8) (x y : ByteArray) : (x ++ y ++ ⟨#[c]⟩).data.toList = x.data.toList ++ y.data.toList ++ [c] := by simp [ByteArray.data_append]
/-- what stands ahead of the last piece -/
def preB (c : UInt8) : List ByteArray → ByteArray
  | [] => ⟨#[]⟩
  | p :: L => p ++ ⟨#[c]⟩ ++ preB c L
theorem preB_app (c : UInt8) (p : ByteArray) : ∀ L : List ByteArray, preB c (L ++ [p]) = preB c L ++ p ++ ⟨#[c]⟩
  | [] => by
    show p ++ ⟨#[c]⟩ ++ ⟨#[]⟩ = ⟨#[]⟩ ++ p ++ ⟨#[c]⟩
    rw [appB_nil, nilB_app]
  | q :: L => by
    show q ++ ⟨#[c]⟩ ++ preB c (L ++ [p]) = q ++ ⟨#[c]⟩ ++ preB c L ++ p ++ ⟨#[c]⟩
    rw [preB_app c p L]
    simp only [ByteArray.append_assoc]
theorem joinB_pre (c : UInt8) (p : ByteArray) : ∀ L : List ByteArray, joinB c (L ++ [p]) = preB c L ++ p
  | [] => by
    show p = ⟨#[]⟩ ++ p
    rw [nilB_app]
  | q :: L => by
    show joinB c (q :: (L ++ [p])) = q ++ ⟨#[c]⟩ ++ preB c L ++ p
    rw [joinB_cons c q (L ++ [p]) (by simp), joinB_pre c p L]
    simp only [ByteArray.append_assoc]
/-- a piece, one byte more, and what stands ahead of it -/
theorem pre_step (c : UInt8) (s : ByteArray) (a i : Nat) (ha : a ≤ i) (hi : i < s.size) (h : s[i].toNat = c.toNat) : s.extract 0 a ++ s.extract a i ++ ⟨#[c]⟩ = s.extract 0 (i + 1) := by
  have hc : s[i] = c := UInt8.toNat_inj.1 h
  apply bytes_ext
  have hl : i < s.data.toList.length := by simpa using hi
  rw [app3_data, extract_list, extract_list, extract_list]
  simp only [List.drop_zero, Nat.sub_zero]
  rw [List.take_succ_eq_append_getElem hl]
  have h2 : s.data.toList[i] = c := by
    have h5 := dataB_get s i hi
    rw [List.getElem?_eq_getElem hl] at h5
    rw [← hc]
    exact Option.some.inj h5
  rw [h2]
  congr 1
  have h3 := List.take_append_drop a (s.data.toList.take i)
  rw [List.take_take, Nat.min_eq_left ha, List.drop_take] at h3
  exact h3
theorem piece_free (c : UInt8) (s : ByteArray) (a i : Nat) (h : ∀ j (hj : j < s.size), a ≤ j → j < i → s[j].toNat ≠ c.toNat) : Free c (s.extract a i) := by
  unfold Free
  rw [extract_list]
  intro hm
  obtain ⟨k, hk, e⟩ := List.mem_iff_getElem.1 hm
  simp only [List.length_take, List.length_drop] at hk
  rw [List.getElem_take, List.getElem_drop] at e
  have hs : a + k < s.size := by
    have : s.data.toList.length = s.size := by simp
    omega
  refine h (a + k) hs (by omega) (by omega) ?_
  have h5 := dataB_get s (a + k) hs
  rw [List.getElem?_eq_getElem (by simp; omega)] at h5
  rw [← Option.some.inj h5, e]
theorem joinB_len (c : UInt8) : ∀ (L : List ByteArray) (p : ByteArray), p ∈ L → p.size + L.length ≤ (joinB c L).size + 1
  | [], _, h => by cases h
  | [q], p, h => by
    have h2 : p = q := by simpa using h
    subst h2
    exact Nat.le_refl _
  | q :: r :: L, p, h => by
    have e : (joinB c (q :: r :: L)).size = q.size + 1 + (joinB c (r :: L)).size := by
      rw [joinB_cons c q (r :: L) (by simp), ByteArray.size_append, ByteArray.size_append, one_size]
    rw [e]
    have h1 := joinB_len c (r :: L) r (by simp)
    rcases List.mem_cons.1 h with h5 | h5
    · subst h5
      simp only [List.length_cons] at h1 ⊢
      omega
    · have h2 := joinB_len c (r :: L) p h5
      simp only [List.length_cons] at h2 ⊢
      omega
end Go.Proofs.YtecekbhkombnnaaGreatDoor
