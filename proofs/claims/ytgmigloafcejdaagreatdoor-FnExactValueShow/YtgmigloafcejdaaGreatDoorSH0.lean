/- How values are written: the plain reckoning. No program is named here. -/
import Derived.Test.YtgmigloafcejdaaGreatDoorN1
import Derived.Lib.Join
import Derived.Lib.ItoaLen
namespace Go.Proofs.YtgmigloafcejdaaGreatDoor
open Go.RowKit

/-- names ahead of texts -/
def showO : List ByteArray → List (List UInt8) → List (List UInt8)
  | n :: ns, x :: xs => (n.data.toList ++ 58 :: x) :: showO ns xs
  | _, _ => []
mutual
/-- a value's text, as bytes -/
def showT : VT → List UInt8
  | .node s n t ns ks =>
    if s = 1 then [110, 117, 108, 108]
    else if s = 2 then (if n = 1 then [116, 114, 117, 101] else [102, 97, 108, 115, 101])
    else if s = 3 then Lib.itoa n
    else if s = 4 then 34 :: (t.data.toList ++ [34])
    else if s = 7 then [63]
    else if s = 6 then 123 :: (Lib.join (showO ns (showK ks)) [44] ++ [125])
    else 91 :: (Lib.join (showK ks) [44] ++ [93])
def showK : List VT → List (List UInt8)
  | [] => []
  | k :: ks => showT k :: showK ks
end
theorem showK_map (ks : List VT) : showK ks = ks.map showT := by
  induction ks with
  | nil => rw [showK]; rfl
  | cons k ks ih => rw [showK, ih]; rfl
theorem showK_len (ks : List VT) : (showK ks).length = ks.length := by rw [showK_map]; simp
theorem showO_len : ∀ (ns : List ByteArray) (xs : List (List UInt8)), ns.length = xs.length → (showO ns xs).length = xs.length
  | [], [], _ => rfl
  | [], _ :: _, h => by simp at h
  | _ :: _, [], h => by simp at h
  | n :: ns, x :: xs, h => by
    rw [showO]
    simp [showO_len ns xs (by simpa using h)]
theorem showO_get : ∀ (ns : List ByteArray) (xs : List (List UInt8)) (j : Nat) (x : List UInt8), ns.length = xs.length → xs[j]? = some x → (showO ns xs)[j]? = some ((ns.getD j ByteArray.empty).data.toList ++ 58 :: x)
  | [], [], j, x, _, h => by simp at h
  | [], _ :: _, _, _, h, _ => by simp at h
  | _ :: _, [], _, _, h, _ => by simp at h
  | n :: ns, y :: xs, j, x, h, hj => by
    rw [showO]
    cases j with
    | zero => simp at hj ⊢; rw [hj]
    | succ j => simpa using showO_get ns xs j x (by simpa using h) (by simpa using hj)

theorem joinTail_snoc (sep : List UInt8) (r : List (List UInt8)) (y : List UInt8) : Lib.joinTail sep (r ++ [y]) = Lib.joinTail sep r ++ (sep ++ y) := by
  simp [Lib.joinTail]
theorem join_snoc (xs : List (List UInt8)) (y sep : List UInt8) (h : xs ≠ []) : Lib.join (xs ++ [y]) sep = Lib.join xs sep ++ (sep ++ y) := by
  cases xs with
  | nil => exact absurd rfl h
  | cons x r =>
    rw [List.cons_append, Lib.join_cons, Lib.join_cons, joinTail_snoc, List.append_assoc]
theorem join_take (xs : List (List UInt8)) (sep : List UInt8) (k : Nat) (x : List UInt8) (hx : xs[k]? = some x) : Lib.join (xs.take (k + 1)) sep = if k = 0 then x else Lib.join (xs.take k) sep ++ (sep ++ x) := by
  have hk := (List.getElem?_eq_some_iff.1 hx).1
  have hs : xs.take (k + 1) = xs.take k ++ [x] := by
    rw [List.take_succ_eq_append_getElem hk]
    rw [List.getElem?_eq_getElem hk] at hx
    cases hx
    rfl
  rw [hs]
  by_cases h0 : k = 0
  · subst h0
    simp [Lib.join_one]
  · rw [if_neg h0, join_snoc]
    intro h
    have := congrArg List.length h
    rw [List.length_take, List.length_nil] at this
    omega

theorem size_len (t : ByteArray) : t.data.toList.length = t.size := Array.length_toList
/-- how long a list of texts is -/
def lens : List (List UInt8) → Nat
  | [] => 0
  | x :: xs => x.length + 1 + lens xs
theorem joinTail_len (r : List (List UInt8)) : (Lib.joinTail [44] r).length = lens r := by
  induction r with
  | nil => rfl
  | cons x r ih =>
    have : Lib.joinTail [44] (x :: r) = ([44] ++ x) ++ Lib.joinTail [44] r := by simp [Lib.joinTail]
    rw [this, List.length_append, ih, lens]
    simp
theorem join_len (xs : List (List UInt8)) : (Lib.join xs [44]).length ≤ lens xs := by
  cases xs with
  | nil => simp [Lib.join_nil, lens]
  | cons x r => rw [Lib.join_cons, List.length_append, joinTail_len, lens]; omega
theorem lens_take (xs : List (List UInt8)) (k : Nat) : lens (xs.take k) ≤ lens xs := by
  induction xs generalizing k with
  | nil => simp [lens]
  | cons x xs ih =>
    cases k with
    | zero => simp [lens]
    | succ k => simp only [List.take_succ_cons, lens]; have := ih k; omega
theorem lens_showO : ∀ (ns : List ByteArray) (xs : List (List UInt8)), lens (showO ns xs) ≤ lens xs + bulkS ns + ns.length
  | [], [] => by simp [showO, lens]
  | [], _ :: _ => by simp [showO, lens]
  | _ :: _, [] => by simp [showO, lens]
  | n :: ns, x :: xs => by
    rw [showO, lens, lens, bulkS]
    have := lens_showO ns xs
    have e : (n.data.toList ++ 58 :: x).length = n.size + 1 + x.length := by
      rw [List.length_append, List.length_cons, size_len]
      omega
    rw [e]
    simp only [List.length_cons]
    omega
mutual
theorem showT_len : ∀ (T : VT) (d : Nat), Parts T d → (showT T).length ≤ 24 * count T + 2 * bulk T
  | .node s n t ns ks, d, h => by
    rw [showT, count, bulk]
    rw [Parts] at h
    have hK := lens_showK ks (d + 1) h.2.2
    split
    · simp only [List.length_cons, List.length_nil]; omega
    split
    · split <;> (simp only [List.length_cons, List.length_nil]; omega)
    split
    · rename_i h3
      have hn : -999999 ≤ n ∧ n ≤ 999999 := by
        rcases h.1.2.2 with ⟨e, a, b⟩ | ⟨e, a, b⟩ | ⟨e, a, b⟩ | ⟨e, a, b, c⟩ | ⟨e, a, b⟩ | ⟨e, a, b, c, f⟩
        · omega
        · omega
        · exact a
        · omega
        · omega
        · omega
      have := Lib.itoa_length_le n (by omega) (by omega)
      omega
    split
    · simp only [List.length_cons, List.length_append, List.length_nil, size_len]
      omega
    split
    · simp only [List.length_cons, List.length_nil]; omega
    split
    · have h1 := join_len (showO ns (showK ks))
      have h2 := lens_showO ns (showK ks)
      simp only [List.length_cons, List.length_append, List.length_nil]
      omega
    · have h1 := join_len (showK ks)
      simp only [List.length_cons, List.length_append, List.length_nil]
      omega
theorem lens_showK : ∀ (ks : List VT) (d : Nat), PartsK ks d → lens (showK ks) ≤ 24 * countK ks + 2 * bulkK ks + ks.length
  | [], _, _ => by simp [showK, lens]
  | k :: ks, d, h => by
    rw [showK, lens, countK, bulkK]
    rw [PartsK] at h
    have h1 := showT_len k d h.1
    have h2 := lens_showK ks d h.2
    simp only [List.length_cons]
    omega
end
end Go.Proofs.YtgmigloafcejdaaGreatDoor
