/- The order of values, and what a text tells of a value. No program is named here. -/
import Derived.Test.YtgmigloafcejdaaGreatDoorX1
import Derived.Test.YtgmigloafcejdaaGreatDoorSH7
namespace Go.Proofs.YtgmigloafcejdaaGreatDoor
open Go.RowKit

/-- by the first; where that says nothing, by the second -/
def lx (x r : Int) : Int := if x = 0 then r else x
theorem firstI_ne (b : Bool) : firstI b ≠ 0 := by cases b <;> simp [firstI]
theorem cmpI_lx (a b : Int) (r : Int) : (if a == b then r else firstI (decide (a < b))) = lx (cmpI a b) r := by
  unfold Go.Proofs.YtgmigloafcejdaaGreatDoor.lx cmpI
  by_cases h : a = b
  · simp [h]
  · have : (a == b) = false := by simpa using h
    simp [this, firstI_ne]
theorem cmpS_lx (a b : ByteArray) (r : Int) : (if a.toList == b.toList then r else firstI (Op.bytesLess a.toList b.toList)) = lx (cmpS a b) r := by
  unfold Go.Proofs.YtgmigloafcejdaaGreatDoor.lx cmpS
  by_cases h : (a.toList == b.toList) = true
  · simp [h]
  · have : (a.toList == b.toList) = false := by simpa using h
    simp [this, firstI_ne]
theorem cmpT_lx (s n : Int) (t : ByteArray) (ns : List ByteArray) (ks : List VT) (s' n' : Int) (t' : ByteArray) (ns' : List ByteArray) (ks' : List VT) :
    cmpT (.node s n t ns ks) (.node s' n' t' ns' ks') = lx (cmpI s s') (lx (cmpI n n') (lx (cmpS t t') (cmpK (s == 6) ks ks' ns ns'))) := by
  rw [cmpT, cmpS_lx, cmpI_lx, cmpI_lx]
theorem cmpK_lx (o : Bool) (k : VT) (ks : List VT) (k' : VT) (ks' : List VT) (ns ns' : List ByteArray) :
    cmpK o (k :: ks) (k' :: ks') ns ns' = lx (if o then cmpS (ns.headD ByteArray.empty) (ns'.headD ByteArray.empty) else 0) (lx (cmpT k k') (cmpK o ks ks' ns.tail ns'.tail)) := by
  rw [cmpK]
  have h2 : (if cmpT k k' == 0 then cmpK o ks ks' ns.tail ns'.tail else cmpT k k') = lx (cmpT k k') (cmpK o ks ks' ns.tail ns'.tail) := by
    unfold Go.Proofs.YtgmigloafcejdaaGreatDoor.lx
    by_cases h : cmpT k k' = 0
    · simp [h]
    · simp [h]
  rw [h2]
  cases o with
  | false => simp [lx]
  | true =>
    simp only [Bool.true_and, if_true]
    rw [← cmpS_lx]
    cases h : ((ns.headD ByteArray.empty).toList == (ns'.headD ByteArray.empty).toList) <;> simp

/-- three that are held against each other -/
def TR (x y z : Int) : Prop := (x = 0 → z = y) ∧ (y = 0 → z = x) ∧ (x = 1 → y = 1 → z = 1) ∧ (x = -1 → y = -1 → z = -1)
theorem TR.lx {x1 y1 z1 x2 y2 z2 : Int} (h1 : TR x1 y1 z1) (h2 : x1 = 0 → y1 = 0 → TR x2 y2 z2) : TR (lx x1 x2) (lx y1 y2) (lx z1 z2) := by
  obtain ⟨a, b, c, d⟩ := h1
  unfold Go.Proofs.YtgmigloafcejdaaGreatDoor.lx
  by_cases hx : x1 = 0
  · by_cases hy : y1 = 0
    · have hz : z1 = 0 := by rw [a hx, hy]
      rw [if_pos hx, if_pos hy, if_pos hz]
      exact h2 hx hy
    · have hz := a hx
      rw [if_pos hx, if_neg hy, if_neg (by omega)]
      exact ⟨fun _ => hz, fun h => absurd h hy, fun _ h => by omega, fun _ h => by omega⟩
  · by_cases hy : y1 = 0
    · have hz := b hy
      rw [if_neg hx, if_pos hy, if_neg (by omega)]
      exact ⟨fun h => absurd h hx, fun _ => hz, fun h _ => by omega, fun h _ => by omega⟩
    · rw [if_neg hx, if_neg hy]
      refine ⟨fun h => absurd h hx, fun h => absurd h hy, fun h h' => ?_, fun h h' => ?_⟩
      · have := c h h'
        rw [if_neg (by omega)]; exact this
      · have := d h h'
        rw [if_neg (by omega)]; exact this
theorem tr_int (a b c : Int) : TR (cmpI a b) (cmpI b c) (cmpI a c) := by
  unfold TR cmpI firstI
  by_cases h1 : a = b <;> by_cases h2 : b = c <;> by_cases h3 : a = c <;> by_cases h4 : a < b <;> by_cases h5 : b < c <;> by_cases h6 : a < c <;> simp_all <;> omega
theorem bl_irrefl : ∀ x : List UInt8, Op.bytesLess x x = false
  | [] => rfl
  | a :: x => by simp [Op.bytesLess, bl_irrefl x]
theorem bl_tot : ∀ x y : List UInt8, x ≠ y → Op.bytesLess x y = !(Op.bytesLess y x)
  | [], [], h => absurd rfl h
  | [], _ :: _, _ => by simp [Op.bytesLess]
  | _ :: _, [], _ => by simp [Op.bytesLess]
  | a :: x, b :: y, h => by
    simp only [Op.bytesLess]
    by_cases hab : a = b
    · subst hab
      have := bl_tot x y (fun e => h (by rw [e]))
      simp [this]
    · have h1 : (a == b) = false := by simpa using hab
      have h2 : (b == a) = false := by simpa using fun e => hab e.symm
      simp only [h1, h2, Bool.false_and, Bool.or_false]
      rcases UInt8.lt_or_lt_of_ne hab with h | h
      · have : ¬ b < a := fun e => absurd h (UInt8.lt_asymm e)
        simp [h, this]
      · have : ¬ a < b := fun e => absurd h (UInt8.lt_asymm e)
        simp [h, this]
theorem bl_trans : ∀ x y z : List UInt8, Op.bytesLess x y = true → Op.bytesLess y z = true → Op.bytesLess x z = true
  | _, [], _, h, _ => by simp [Op.bytesLess] at h
  | _, _ :: _, [], _, h => by simp [Op.bytesLess] at h
  | [], _ :: _, _ :: _, _, _ => by simp [Op.bytesLess]
  | a :: x, b :: y, c :: z, h1, h2 => by
    simp only [Op.bytesLess, Bool.or_eq_true, Bool.and_eq_true, decide_eq_true_eq, beq_iff_eq] at h1 h2 ⊢
    rcases h1 with h1 | ⟨rfl, h1⟩
    · rcases h2 with h2 | ⟨rfl, h2⟩
      · exact .inl (UInt8.lt_trans h1 h2)
      · exact .inl h1
    · rcases h2 with h2 | ⟨rfl, h2⟩
      · exact .inl h2
      · exact .inr ⟨rfl, bl_trans x y z h1 h2⟩
theorem tr_str (a b c : ByteArray) : TR (cmpS a b) (cmpS b c) (cmpS a c) := by
  unfold cmpS
  generalize a.toList = x
  generalize b.toList = y
  generalize c.toList = z
  by_cases h1 : x = y
  · subst h1
    simp only [beq_self_eq_true, if_true]
    exact ⟨fun _ => rfl, fun h => h, fun h => by omega, fun h => by omega⟩
  by_cases h2 : y = z
  · subst h2
    simp only [beq_self_eq_true, if_true]
    exact ⟨fun h => h, fun _ => rfl, fun _ h => by omega, fun _ h => by omega⟩
  have e1 : (x == y) = false := by simpa using h1
  have e2 : (y == z) = false := by simpa using h2
  simp only [e1, e2]
  refine ⟨fun h => absurd h (firstI_ne _), fun h => absurd h (firstI_ne _), fun h h' => ?_, fun h h' => ?_⟩
  · have k1 : Op.bytesLess x y = true := by cases hb : Op.bytesLess x y <;> simp [hb, firstI] at h ⊢
    have k2 : Op.bytesLess y z = true := by cases hb : Op.bytesLess y z <;> simp [hb, firstI] at h' ⊢
    have k3 := bl_trans x y z k1 k2
    have k4 : (x == z) = false := by
      cases hh : x == z with
      | false => rfl
      | true => rw [eq_of_beq hh, bl_irrefl] at k3; cases k3
    simp [k4, k3, firstI]
  · have k1 : Op.bytesLess x y = false := by cases hb : Op.bytesLess x y <;> simp [hb, firstI] at h ⊢
    have k2 : Op.bytesLess y z = false := by cases hb : Op.bytesLess y z <;> simp [hb, firstI] at h' ⊢
    have k1' : Op.bytesLess y x = true := by have := bl_tot x y h1; rw [k1] at this; cases hb : Op.bytesLess y x <;> simp [hb] at this ⊢
    have k2' : Op.bytesLess z y = true := by have := bl_tot y z h2; rw [k2] at this; cases hb : Op.bytesLess z y <;> simp [hb] at this ⊢
    have k3 := bl_trans z y x k2' k1'
    have k4 : x ≠ z := fun e => by rw [e, bl_irrefl] at k3; cases k3
    have k5 : (x == z) = false := by simpa using k4
    have k6 : Op.bytesLess x z = false := by have := bl_tot x z k4; rw [k3] at this; simpa using this
    simp [k5, k6, firstI]
theorem cmpI_zero {a b : Int} (h : cmpI a b = 0) : a = b := by
  unfold cmpI at h
  by_cases e : a = b
  · exact e
  · have : (a == b) = false := by simpa using e
    rw [this] at h
    exact absurd h (firstI_ne _)
mutual
/-- of three values -/
theorem tr_val : ∀ a b c : VT, TR (cmpT a b) (cmpT b c) (cmpT a c)
  | .node s n t ns ks, .node s' n' t' ns' ks', .node s'' n'' t'' ns'' ks'' => by
    rw [cmpT_lx, cmpT_lx, cmpT_lx]
    refine (tr_int s s' s'').lx (fun h1 _ => (tr_int n n' n'').lx (fun _ _ => (tr_str t t' t'').lx (fun _ _ => ?_)))
    obtain rfl := cmpI_zero h1
    exact tr_list (s == 6) ks ks' ks'' ns ns' ns''
theorem tr_list : ∀ (o : Bool) (a b c : List VT) (x y z : List ByteArray), TR (cmpK o a b x y) (cmpK o b c y z) (cmpK o a c x z)
  | o, [], [], [], x, y, z => by simp only [cmpK]; exact ⟨fun _ => rfl, fun _ => rfl, fun h => by omega, fun h => by omega⟩
  | o, [], [], _ :: _, x, y, z => by simp only [cmpK]; exact ⟨fun _ => rfl, fun h => by omega, fun h => by omega, fun h => by omega⟩
  | o, [], _ :: _, [], x, y, z => by simp only [cmpK]; exact ⟨fun h => by omega, fun h => by omega, fun _ h => by omega, fun h => by omega⟩
  | o, [], _ :: _, _ :: _, x, y, z => by
    have h1 : ∀ (k : VT) (l : List VT) (u v : List ByteArray), cmpK o [] (k :: l) u v = 1 := fun k l u v => by rw [cmpK]
    rw [h1, h1]
    exact ⟨fun h => by omega, fun _ => rfl, fun _ _ => rfl, fun h => by omega⟩
  | o, _ :: _, [], [], x, y, z => by simp only [cmpK]; exact ⟨fun h => by omega, fun _ => rfl, fun h => by omega, fun _ h => by omega⟩
  | o, _ :: _, [], _ :: _, x, y, z => by
    have h1 : ∀ (k : VT) (l : List VT) (u v : List ByteArray), cmpK o [] (k :: l) u v = 1 := fun k l u v => by rw [cmpK]
    have h2 : ∀ (k : VT) (l : List VT) (u v : List ByteArray), cmpK o (k :: l) [] u v = -1 := fun k l u v => by rw [cmpK]
    rw [h1, h2]
    exact ⟨fun h => by omega, fun h => by omega, fun h => by omega, fun _ h => by omega⟩
  | o, _ :: _, _ :: _, [], x, y, z => by
    have h2 : ∀ (k : VT) (l : List VT) (u v : List ByteArray), cmpK o (k :: l) [] u v = -1 := fun k l u v => by rw [cmpK]
    rw [h2, h2]
    exact ⟨fun _ => rfl, fun h => by omega, fun _ h => by omega, fun _ _ => rfl⟩
  | o, k :: ks, k' :: ks', k'' :: ks'', x, y, z => by
    rw [cmpK_lx, cmpK_lx, cmpK_lx]
    refine TR.lx ?_ (fun _ _ => (tr_val k k' k'').lx (fun _ _ => tr_list o ks ks' ks'' x.tail y.tail z.tail))
    cases o with
    | true => exact tr_str _ _ _
    | false => exact ⟨fun _ => rfl, fun _ => rfl, fun h => by simp at h, fun h => by simp at h⟩
end
theorem lx_neg (x r : Int) : lx (-x) (-r) = -(lx x r) := by
  unfold Go.Proofs.YtgmigloafcejdaaGreatDoor.lx
  by_cases h : x = 0
  · simp [h]
  · rw [if_neg h, if_neg (by omega)]
theorem cmpI_neg (a b : Int) : cmpI b a = -(cmpI a b) := by
  unfold cmpI firstI
  by_cases h1 : a = b
  · simp [h1]
  · have e1 : (a == b) = false := by simpa using h1
    have e2 : (b == a) = false := by simpa using fun e => h1 e.symm
    rw [e1, e2]
    by_cases h : a < b
    · have : ¬ b < a := by omega
      simp [h, this]
    · have : b < a := by omega
      simp [h, this]
theorem cmpS_neg (a b : ByteArray) : cmpS b a = -(cmpS a b) := by
  unfold cmpS firstI
  generalize a.toList = x
  generalize b.toList = y
  by_cases h1 : x = y
  · simp [h1]
  · have e1 : (x == y) = false := by simpa using h1
    have e2 : (y == x) = false := by simpa using fun e => h1 e.symm
    rw [e1, e2, bl_tot x y h1]
    cases Op.bytesLess y x <;> simp
mutual
/-- the other way round -/
theorem cmpT_neg : ∀ a b : VT, cmpT b a = -(cmpT a b)
  | .node s n t ns ks, .node s' n' t' ns' ks' => by
    rw [cmpT_lx, cmpT_lx, cmpI_neg s s', cmpI_neg n n', cmpS_neg t t']
    by_cases h : cmpI s s' = 0
    · obtain rfl := cmpI_zero h
      rw [cmpK_neg (s == 6) ks ks' ns ns', lx_neg, lx_neg, lx_neg]
    · unfold Go.Proofs.YtgmigloafcejdaaGreatDoor.lx
      rw [if_neg h, if_neg (by omega)]
theorem cmpK_neg : ∀ (o : Bool) (a b : List VT) (x y : List ByteArray), cmpK o b a y x = -(cmpK o a b x y)
  | o, [], [], x, y => by simp only [cmpK]; rfl
  | o, [], _ :: _, x, y => by simp only [cmpK]
  | o, _ :: _, [], x, y => by simp only [cmpK]; rfl
  | o, k :: ks, k' :: ks', x, y => by
    rw [cmpK_lx, cmpK_lx, cmpT_neg k k', cmpK_neg o ks ks' x.tail y.tail]
    have : (if o then cmpS (y.headD ByteArray.empty) (x.headD ByteArray.empty) else 0) = -(if o then cmpS (x.headD ByteArray.empty) (y.headD ByteArray.empty) else 0) := by
      cases o with
      | true => simp only [if_true]; exact cmpS_neg _ _
      | false => rfl
    rw [this, lx_neg, lx_neg]
end
/-- what is cut at the first byte that is not p's -/
theorem cut_same (p : UInt8 → Prop) : ∀ (xs xs' r r' : List UInt8), (∀ b ∈ xs, p b) → (∀ b ∈ xs', p b) → (∀ c t, r = c :: t → ¬ p c) → (∀ c t, r' = c :: t → ¬ p c) → xs ++ r = xs' ++ r' → xs = xs' ∧ r = r'
  | [], [], r, r', _, _, _, _, h => ⟨rfl, by simpa using h⟩
  | [], y :: ys, r, r', _, h2, h3, _, h => by
    exact absurd (h2 y (by simp)) (h3 y (ys ++ r') (by simpa using h))
  | x :: xs, [], r, r', h1, _, _, h4, h => by
    exact absurd (h1 x (by simp)) (h4 x (xs ++ r) (by simpa using h.symm))
  | x :: xs, y :: ys, r, r', h1, h2, h3, h4, h => by
    simp only [List.cons_append, List.cons.injEq] at h
    obtain ⟨rfl, h⟩ := h
    obtain ⟨rfl, rfl⟩ := cut_same p xs ys r r' (fun b hb => h1 b (by simp [hb])) (fun b hb => h2 b (by simp [hb])) h3 h4 h
    exact ⟨rfl, rfl⟩
def isFig (b : UInt8) : Prop := 48 ≤ b.toNat ∧ b.toNat ≤ 57
theorem fig_of (i : Nat) (h : i < 10) : isFig (UInt8.ofNat (48 + i)) := by
  unfold isFig
  rw [UInt8.toNat_ofNat']
  omega
theorem digits_fig (u : Nat) : ∀ b ∈ Lib.decDigits u, isFig b := by
  induction u using Nat.strongRecOn with
  | ind u ih =>
    intro b hb
    rw [Lib.decDigits] at hb
    split at hb
    · rename_i h
      rw [List.mem_singleton.1 hb]
      exact fig_of u h
    · rename_i h
      rcases List.mem_append.1 hb with hb | hb
      · exact ih (u / 10) (by omega) b hb
      · rw [List.mem_singleton.1 hb]
        exact fig_of (u % 10) (by omega)
/-- the number that figures write -/
def valD (xs : List UInt8) : Nat := xs.foldl (fun a b => a * 10 + (b.toNat - 48)) 0
theorem valD_digits (u : Nat) : valD (Lib.decDigits u) = u := by
  induction u using Nat.strongRecOn with
  | ind u ih =>
    rw [Lib.decDigits]
    split
    · rename_i h
      simp [valD, UInt8.toNat_ofNat']
      omega
    · rename_i h
      have := ih (u / 10) (by omega)
      unfold valD at this ⊢
      rw [List.foldl_append, this]
      simp [UInt8.toNat_ofNat']
      omega
theorem digits_ne (u : Nat) : ∃ c t, Lib.decDigits u = c :: t ∧ isFig c := by
  have h := digits_fig u
  cases hd : Lib.decDigits u with
  | nil =>
    have := Lib.decDigits_length u
    rw [hd] at this
    have h1 : 1 ≤ Lib.nDigits u := by
      rw [Lib.nDigits]
      split <;> omega
    simp at this
    omega
  | cons c t => exact ⟨c, t, rfl, h c (by rw [hd]; simp)⟩
theorem itoa_inj (n n' : Int) (r r' : List UInt8) (h1 : ∀ c t, r = c :: t → ¬ isFig c) (h2 : ∀ c t, r' = c :: t → ¬ isFig c) (h : Lib.itoa n ++ r = Lib.itoa n' ++ r') : n = n' ∧ r = r' := by
  unfold Lib.itoa at h
  have hf : ∀ {c : UInt8}, isFig c → c ≠ 45 := fun {c} hc e => by subst e; exact absurd hc (by unfold isFig; decide)
  by_cases hn : n < 0
  · by_cases hn' : n' < 0
    · rw [if_pos hn, if_pos hn'] at h
      simp only [List.cons_append, List.cons.injEq, true_and] at h
      obtain ⟨e, rfl⟩ := cut_same isFig _ _ r r' (digits_fig _) (digits_fig _) h1 h2 h
      have := congrArg valD e
      rw [valD_digits, valD_digits] at this
      exact ⟨by omega, rfl⟩
    · rw [if_pos hn, if_neg hn'] at h
      obtain ⟨c, t, he, hc⟩ := digits_ne n'.toNat
      rw [he] at h
      simp only [List.cons_append, List.cons.injEq] at h
      exact absurd h.1.symm (hf hc)
  · by_cases hn' : n' < 0
    · rw [if_neg hn, if_pos hn'] at h
      obtain ⟨c, t, he, hc⟩ := digits_ne n.toNat
      rw [he] at h
      simp only [List.cons_append, List.cons.injEq] at h
      exact absurd h.1 (hf hc)
    · rw [if_neg hn, if_neg hn'] at h
      obtain ⟨e, rfl⟩ := cut_same isFig _ _ r r' (digits_fig _) (digits_fig _) h1 h2 h
      have := congrArg valD e
      rw [valD_digits, valD_digits] at this
      exact ⟨by omega, rfl⟩

/-- what stands behind a value within a text -/
def Sep (r : List UInt8) : Prop := ∀ c t, r = c :: t → c = 44 ∨ c = 93 ∨ c = 125
theorem Sep.fig {r : List UInt8} (h : Sep r) : ∀ c t, r = c :: t → ¬ isFig c := fun c t e hf => by
  rcases h c t e with rfl | rfl | rfl <;> exact absurd hf (by unfold isFig; decide)
/-- the sort that a first byte tells -/
def sortOf (c : UInt8) : Int := if c = 110 then 1 else if c = 116 then 2 else if c = 102 then 2 else if c = 34 then 4 else if c = 63 then 7 else if c = 123 then 6 else if c = 91 then 5 else 3
theorem sort_fig {c : UInt8} (h : isFig c ∨ c = 45) : sortOf c = 3 ∧ c ≠ 44 ∧ c ≠ 93 ∧ c ≠ 125 := by
  have k : ∀ x : UInt8, (48 ≤ x.toNat ∧ x.toNat ≤ 57) ∨ x = 45 → x ≠ 110 ∧ x ≠ 116 ∧ x ≠ 102 ∧ x ≠ 34 ∧ x ≠ 63 ∧ x ≠ 123 ∧ x ≠ 91 ∧ x ≠ 44 ∧ x ≠ 93 ∧ x ≠ 125 := by
    intro x hx
    refine ⟨?_, ?_, ?_, ?_, ?_, ?_, ?_, ?_, ?_, ?_⟩ <;> (intro e; subst e; revert hx; decide)
  obtain ⟨h1, h2, h3, h4, h5, h6, h7, h8, h9, h10⟩ := k c h
  exact ⟨by simp [sortOf, h1, h2, h3, h4, h5, h6, h7], h8, h9, h10⟩
theorem itoa_first (n : Int) : ∃ c t, Lib.itoa n = c :: t ∧ (isFig c ∨ c = 45) := by
  unfold Lib.itoa
  by_cases h : n < 0
  · exact ⟨45, _, by rw [if_pos h], .inr rfl⟩
  · obtain ⟨c, t, e, hc⟩ := digits_ne n.toNat
    exact ⟨c, t, by rw [if_neg h, e], .inl hc⟩
theorem show_first (s n : Int) (t : ByteArray) (ns : List ByteArray) (ks : List VT) (h : Plain s n t ns ks.length) : ∃ c x, showT (.node s n t ns ks) = c :: x ∧ sortOf c = s ∧ c ≠ 44 ∧ c ≠ 93 ∧ c ≠ 125 := by
  rw [showT]
  rcases h.2.2 with ⟨h | h, -, -⟩ | ⟨h, -, -⟩ | ⟨h, -, -⟩ | ⟨h, -, -, -⟩ | ⟨h, -, -⟩ | ⟨h, -, -, -, -⟩ <;> subst h
  · exact ⟨110, _, rfl, by decide, by decide, by decide, by decide⟩
  · exact ⟨63, _, rfl, by decide, by decide, by decide, by decide⟩
  · by_cases hn : n = 1
    · exact ⟨116, [114, 117, 101], by simp [hn], by decide, by decide, by decide, by decide⟩
    · exact ⟨102, [97, 108, 115, 101], by simp [hn], by decide, by decide, by decide, by decide⟩
  · obtain ⟨c, x, e, hc⟩ := itoa_first n
    exact ⟨c, x, by simp [e], sort_fig hc⟩
  · exact ⟨34, _, rfl, by decide, by decide, by decide, by decide⟩
  · exact ⟨91, _, rfl, by decide, by decide, by decide, by decide⟩
  · exact ⟨123, _, rfl, by decide, by decide, by decide, by decide⟩
theorem toList_data (t : ByteArray) : t.data.toList = t.toList := by rw [ByteArray.toList_eq]
theorem text_bytes {t : ByteArray} (h : TextOk t) : ∀ b ∈ t.data.toList, b ≠ 34 := fun b hb e => by
  obtain ⟨k, hk, hb⟩ := List.getElem_of_mem hb
  have hk' : k < t.size := by simpa using hk
  have := (h.1 k hk').2.2
  rw [show t[k] = t.data.toList[k] from by simp [ByteArray.getElem_eq_getElem_data], hb, e] at this
  exact this rfl
theorem name_bytes {t : ByteArray} (h : NameOk t) : ∀ b ∈ t.data.toList, b ≠ 58 ∧ b ≠ 125 := fun b hb => by
  obtain ⟨k, hk, hb⟩ := List.getElem_of_mem hb
  have hk' : k < t.size := by simpa using hk
  have := h.2.2 k hk'
  rw [show t[k] = t.data.toList[k] from by simp [ByteArray.getElem_eq_getElem_data], hb] at this
  refine ⟨fun e => ?_, fun e => ?_⟩ <;> subst e <;> rcases this with h | ⟨h, -⟩
  · exact absurd h (by unfold Letter; decide)
  · exact absurd h (by unfold Figure; decide)
  · exact absurd h (by unfold Letter; decide)
  · exact absurd h (by unfold Figure; decide)

theorem size_zero {t : ByteArray} (h : t.size = 0) : t.toList = [] := by
  rw [← toList_data]
  exact List.eq_nil_of_length_eq_zero (by simpa using h)
theorem cmpT_same (s n : Int) (t : ByteArray) (ns : List ByteArray) (ks : List VT) (n' : Int) (t' : ByteArray) (ns' : List ByteArray) (ks' : List VT) (hn : n = n') (ht : t.toList = t'.toList) (hk : cmpK (s == 6) ks ks' ns ns' = 0) : cmpT (.node s n t ns ks) (.node s n' t' ns' ks') = 0 := by
  rw [cmpT_lx, hk]
  subst hn
  simp [cmpI, cmpS, ht, lx]
theorem joinTail_cons (x : List UInt8) (xs : List (List UInt8)) : Lib.joinTail [44] (x :: xs) = 44 :: (x ++ Lib.joinTail [44] xs) := by simp [Lib.joinTail]
theorem sep_tail (xs : List (List UInt8)) (c : UInt8) (hc : c = 93 ∨ c = 125) (r : List UInt8) : Sep (Lib.joinTail [44] xs ++ c :: r) := by
  cases xs with
  | nil =>
    intro b t e
    simp [Lib.joinTail] at e
    rcases hc with rfl | rfl
    · exact .inr (.inl e.1.symm)
    · exact .inr (.inr e.1.symm)
  | cons x xs =>
    intro b t e
    rw [joinTail_cons] at e
    simp at e
    exact .inl e.1.symm
theorem plain_kids {s n : Int} {t : ByteArray} {ns : List ByteArray} {ks : List VT} (h : Plain s n t ns ks.length) (h5 : s ≠ 5) (h6 : s ≠ 6) : ks = [] := by
  rcases h.2.2 with ⟨_, _, h⟩ | ⟨_, _, h⟩ | ⟨_, _, h⟩ | ⟨_, _, h, _⟩ | ⟨h, _⟩ | ⟨h, _⟩
  · exact List.eq_nil_of_length_eq_zero h
  · exact List.eq_nil_of_length_eq_zero h
  · exact List.eq_nil_of_length_eq_zero h
  · exact List.eq_nil_of_length_eq_zero h
  · exact absurd h h5
  · exact absurd h h6
mutual
theorem show_inj : ∀ (T T' : VT) (d d' : Nat), Parts T d → Parts T' d' → ∀ r r' : List UInt8, Sep r → Sep r' → showT T ++ r = showT T' ++ r' → cmpT T T' = 0 ∧ r = r'
  | .node s n t ns ks, .node s' n' t' ns' ks', d, d', h, h', r, r', hr, hr', e => by
    rw [Parts] at h h'
    obtain ⟨h, -, hks⟩ := h
    obtain ⟨h', -, hks'⟩ := h'
    obtain ⟨c, x, e1, hs, -⟩ := show_first s n t ns ks h
    obtain ⟨c', x', e1', hs', -⟩ := show_first s' n' t' ns' ks' h'
    have hcc : c = c' := by rw [e1, e1'] at e; exact (List.cons.inj e).1
    have hss : s = s' := by rw [← hs, ← hs', hcc]
    subst hss
    clear e1 e1' hs hs' hcc
    have ht0 : s ≠ 4 → t.toList = t'.toList := fun h4 => by rw [size_zero (h.2.1 h4), size_zero (h'.2.1 h4)]
    have hk0 : s ≠ 5 → s ≠ 6 → cmpK (s == 6) ks ks' ns ns' = 0 := fun h5 h6 => by rw [plain_kids h h5 h6, plain_kids h' h5 h6, cmpK]
    rw [showT, showT] at e
    rcases h.2.2 with ⟨hs | hs, hn, -⟩ | ⟨hs, hn, -⟩ | ⟨hs, hn, -⟩ | ⟨hs, hn, -, hx⟩ | ⟨hs, hn, -⟩ | ⟨hs, hn, hl, -, hx⟩ <;> subst hs
    · have hn' : n' = 0 := by rcases h'.2.2 with h | h | h | h | h | h <;> first | exact h.2.1 | exact absurd h.1 (by decide)
      exact ⟨cmpT_same _ _ _ _ _ _ _ _ _ (by rw [hn, hn']) (ht0 (by decide)) (hk0 (by decide) (by decide)), by simpa using e⟩
    · have hn' : n' = 0 := by rcases h'.2.2 with h | h | h | h | h | h <;> first | exact h.2.1 | exact absurd h.1 (by decide)
      exact ⟨cmpT_same _ _ _ _ _ _ _ _ _ (by rw [hn, hn']) (ht0 (by decide)) (hk0 (by decide) (by decide)), by simpa using e⟩
    · have hn' : InR 0 n' 1 := by rcases h'.2.2 with h | h | h | h | h | h <;> first | exact h.2.1 | exact absurd h.1 (by decide)
      simp only [if_neg (show ¬ (2 : Int) = 1 by decide), if_true] at e
      have hnn : n = n' ∧ r = r' := by
        by_cases a : n = 1 <;> by_cases b : n' = 1
        · rw [if_pos a, if_pos b] at e; exact ⟨by rw [a, b], by simpa using e⟩
        · rw [if_pos a, if_neg b] at e; simp at e
        · rw [if_neg a, if_pos b] at e; simp at e
        · rw [if_neg a, if_neg b] at e; exact ⟨by have := hn.1; have := hn.2; have := hn'.1; have := hn'.2; omega, by simpa using e⟩
      exact ⟨cmpT_same _ _ _ _ _ _ _ _ _ hnn.1 (ht0 (by decide)) (hk0 (by decide) (by decide)), hnn.2⟩
    · simp only [if_neg (show ¬ (3 : Int) = 1 by decide), if_neg (show ¬ (3 : Int) = 2 by decide), if_true] at e
      obtain ⟨rfl, rfl⟩ := itoa_inj n n' r r' hr.fig hr'.fig e
      exact ⟨cmpT_same _ _ _ _ _ _ _ _ _ rfl (ht0 (by decide)) (hk0 (by decide) (by decide)), rfl⟩
    · obtain ⟨hn', hx'⟩ : n' = 0 ∧ TextOk t' := by rcases h'.2.2 with h | h | h | h | h | h <;> first | exact ⟨h.2.1, h.2.2.2⟩ | exact absurd h.1 (by decide)
      simp only [if_neg (show ¬ (4 : Int) = 1 by decide), if_neg (show ¬ (4 : Int) = 2 by decide), if_neg (show ¬ (4 : Int) = 3 by decide), if_true, List.cons_append, List.append_assoc, List.cons.injEq, true_and, List.nil_append] at e
      obtain ⟨e1, e2⟩ := cut_same (fun b => b ≠ 34) _ _ (34 :: r) (34 :: r') (text_bytes hx) (text_bytes hx') (fun c t h hc => by cases h; exact hc rfl) (fun c t h hc => by cases h; exact hc rfl) e
      exact ⟨cmpT_same _ _ _ _ _ _ _ _ _ (by rw [hn, hn']) (by rw [← toList_data, ← toList_data, e1]) (hk0 (by decide) (by decide)), (List.cons.inj e2).2⟩
    · have hn' : n' = 0 := by rcases h'.2.2 with h | h | h | h | h | h <;> first | exact h.2.1 | exact absurd h.1 (by decide)
      simp only [if_neg (show ¬ (5 : Int) = 1 by decide), if_neg (show ¬ (5 : Int) = 2 by decide), if_neg (show ¬ (5 : Int) = 3 by decide), if_neg (show ¬ (5 : Int) = 4 by decide), if_neg (show ¬ (5 : Int) = 7 by decide), if_neg (show ¬ (5 : Int) = 6 by decide), List.cons_append, List.append_assoc, List.cons.injEq, true_and, List.nil_append] at e
      have hl : cmpK false ks ks' ns ns' = 0 ∧ r = r' := list_inj ks ks' _ _ hks hks' ns ns' r r' e
      exact ⟨cmpT_same _ _ _ _ _ _ _ _ _ (by rw [hn, hn']) (ht0 (by decide)) hl.1, hl.2⟩
    · obtain ⟨hn', hl', hx'⟩ : n' = 0 ∧ ks'.length = ns'.length ∧ NamesOk ns' := by rcases h'.2.2 with h | h | h | h | h | h <;> first | exact ⟨h.2.1, h.2.2.1, h.2.2.2.2⟩ | exact absurd h.1 (by decide)
      simp only [if_neg (show ¬ (6 : Int) = 1 by decide), if_neg (show ¬ (6 : Int) = 2 by decide), if_neg (show ¬ (6 : Int) = 3 by decide), if_neg (show ¬ (6 : Int) = 4 by decide), if_neg (show ¬ (6 : Int) = 7 by decide), if_true, List.cons_append, List.append_assoc, List.cons.injEq, true_and, List.nil_append] at e
      have hnm : ∀ {ns : List ByteArray}, NamesOk ns → ∀ m ∈ ns, NameOk m := fun {ns} h m hm => by
        obtain ⟨i, hi, rfl⟩ := List.getElem_of_mem hm
        exact (h i hi).1
      have hl : cmpK true ks ks' ns ns' = 0 ∧ r = r' := obj_inj ks ks' _ _ hks hks' ns ns' hl hl' (hnm hx) (hnm hx') r r' e
      exact ⟨cmpT_same _ _ _ _ _ _ _ _ _ (by rw [hn, hn']) (ht0 (by decide)) hl.1, hl.2⟩
theorem list_inj : ∀ (ks ks' : List VT) (d d' : Nat), PartsK ks d → PartsK ks' d' → ∀ (ns ns' : List ByteArray) (r r' : List UInt8), Lib.join (showK ks) [44] ++ 93 :: r = Lib.join (showK ks') [44] ++ 93 :: r' → cmpK false ks ks' ns ns' = 0 ∧ r = r'
  | [], [], _, _, _, _, ns, ns', r, r', e => by
    rw [cmpK]
    exact ⟨rfl, by simpa [showK, Lib.join_nil] using e⟩
  | [], .node s n t ms ls :: ks', d, d', _, h', ns, ns', r, r', e => by
    rw [PartsK, Parts] at h'
    obtain ⟨c, x, e1, -, -, h2, -⟩ := show_first s n t ms ls h'.1.1
    rw [showK, showK, Lib.join_nil, Lib.join_cons, e1] at e
    simp at e
    exact absurd e.1.symm h2
  | .node s n t ms ls :: ks, [], d, d', h, _, ns, ns', r, r', e => by
    rw [PartsK, Parts] at h
    obtain ⟨c, x, e1, -, -, h2, -⟩ := show_first s n t ms ls h.1.1
    rw [showK, showK, Lib.join_nil, Lib.join_cons, e1] at e
    simp at e
    exact absurd e.1 h2
  | k :: ks, k' :: ks', d, d', h, h', ns, ns', r, r', e => by
    rw [PartsK] at h h'
    rw [showK, showK, Lib.join_cons, Lib.join_cons, List.append_assoc, List.append_assoc] at e
    obtain ⟨e1, e2⟩ := show_inj k k' d d' h.1 h'.1 _ _ (sep_tail _ 93 (.inl rfl) _) (sep_tail _ 93 (.inl rfl) _) e
    obtain ⟨e3, e4⟩ := tail_inj ks ks' d d' h.2 h'.2 ns.tail ns'.tail r r' e2
    rw [cmpK_lx, e1, e3]
    exact ⟨rfl, e4⟩
theorem tail_inj : ∀ (ks ks' : List VT) (d d' : Nat), PartsK ks d → PartsK ks' d' → ∀ (ns ns' : List ByteArray) (r r' : List UInt8), Lib.joinTail [44] (showK ks) ++ 93 :: r = Lib.joinTail [44] (showK ks') ++ 93 :: r' → cmpK false ks ks' ns ns' = 0 ∧ r = r'
  | [], [], _, _, _, _, ns, ns', r, r', e => by
    rw [cmpK]
    exact ⟨rfl, by simpa [showK, Lib.joinTail] using e⟩
  | [], k' :: ks', d, d', _, h', ns, ns', r, r', e => by
    rw [showK, showK, joinTail_cons] at e
    simp [Lib.joinTail] at e
  | k :: ks, [], d, d', h, _, ns, ns', r, r', e => by
    rw [showK, showK, joinTail_cons] at e
    simp [Lib.joinTail] at e
  | k :: ks, k' :: ks', d, d', h, h', ns, ns', r, r', e => by
    rw [PartsK] at h h'
    rw [showK, showK, joinTail_cons, joinTail_cons] at e
    simp only [List.cons_append, List.append_assoc, List.cons.injEq, true_and] at e
    obtain ⟨e1, e2⟩ := show_inj k k' d d' h.1 h'.1 _ _ (sep_tail _ 93 (.inl rfl) _) (sep_tail _ 93 (.inl rfl) _) e
    obtain ⟨e3, e4⟩ := tail_inj ks ks' d d' h.2 h'.2 ns.tail ns'.tail r r' e2
    rw [cmpK_lx, e1, e3]
    exact ⟨rfl, e4⟩
theorem obj_inj : ∀ (ks ks' : List VT) (d d' : Nat), PartsK ks d → PartsK ks' d' → ∀ (ns ns' : List ByteArray), ks.length = ns.length → ks'.length = ns'.length → (∀ m ∈ ns, NameOk m) → (∀ m ∈ ns', NameOk m) → ∀ r r' : List UInt8, Lib.join (showO ns (showK ks)) [44] ++ 125 :: r = Lib.join (showO ns' (showK ks')) [44] ++ 125 :: r' → cmpK true ks ks' ns ns' = 0 ∧ r = r'
  | [], [], _, _, _, _, ns, ns', hl, hl', _, _, r, r', e => by
    obtain rfl : ns = [] := List.eq_nil_of_length_eq_zero (by simpa using hl.symm)
    obtain rfl : ns' = [] := List.eq_nil_of_length_eq_zero (by simpa using hl'.symm)
    rw [cmpK]
    exact ⟨rfl, by simpa [showK, showO, Lib.join_nil] using e⟩
  | [], k' :: ks', d, d', _, h', ns, m' :: ns', hl, hl', _, hx', r, r', e => by
    obtain rfl : ns = [] := List.eq_nil_of_length_eq_zero (by simpa using hl.symm)
    rw [show showO (m' :: ns') (showK (k' :: ks')) = (m'.data.toList ++ 58 :: showT k') :: showO ns' (showK ks') from by rw [showK, showO], show showO [] (showK []) = [] from by rw [showK]; rfl, Lib.join_nil, Lib.join_cons] at e
    have hm := hx' m' (by simp)
    cases hd : m'.data.toList with
    | nil =>
      have h1 := hm.1
      have h2 : m'.size = 0 := by
        have h3 : m'.size = m'.data.toList.length := by simp
        rw [h3, hd]
        rfl
      omega
    | cons c x =>
      have hc := (name_bytes hm c (by rw [hd]; simp)).2
      rw [hd] at e
      simp at e
      exact absurd e.1.symm hc
    all_goals (intros; simp_all)
  | [], _ :: _, _, _, _, _, _, [], _, hl', _, _, _, _, _ => by simp at hl'
  | k :: ks, [], d, d', h, _, m :: ns, ns', hl, hl', hx, _, r, r', e => by
    obtain rfl : ns' = [] := List.eq_nil_of_length_eq_zero (by simpa using hl'.symm)
    rw [show showO (m :: ns) (showK (k :: ks)) = (m.data.toList ++ 58 :: showT k) :: showO ns (showK ks) from by rw [showK, showO], show showO [] (showK []) = [] from by rw [showK]; rfl, Lib.join_nil, Lib.join_cons] at e
    have hm := hx m (by simp)
    cases hd : m.data.toList with
    | nil =>
      have h1 := hm.1
      have h2 : m.size = 0 := by
        have h3 : m.size = m.data.toList.length := by simp
        rw [h3, hd]
        rfl
      omega
    | cons c x =>
      have hc := (name_bytes hm c (by rw [hd]; simp)).2
      rw [hd] at e
      simp at e
      exact absurd e.1 hc
    all_goals (intros; simp_all)
  | _ :: _, [], _, _, _, _, [], _, hl, _, _, _, _, _, _ => by simp at hl
  | k :: ks, k' :: ks', d, d', h, h', m :: ns, m' :: ns', hl, hl', hx, hx', r, r', e => by
    rw [PartsK] at h h'
    rw [showK, showK, showO, showO, Lib.join_cons, Lib.join_cons] at e
    simp only [List.append_assoc, List.cons_append] at e
    obtain ⟨e0, e1⟩ := cut_same (fun b => b ≠ 58) _ _ _ _ (fun b hb => (name_bytes (hx m (by simp)) b hb).1) (fun b hb => (name_bytes (hx' m' (by simp)) b hb).1) (fun c t h hc => by cases h; exact hc rfl) (fun c t h hc => by cases h; exact hc rfl) e
    obtain ⟨e2, e3⟩ := show_inj k k' d d' h.1 h'.1 _ _ (sep_tail _ 125 (.inr rfl) _) (sep_tail _ 125 (.inr rfl) _) (List.cons.inj e1).2
    obtain ⟨e4, e5⟩ := otail_inj ks ks' d d' h.2 h'.2 ns ns' (by simpa using hl) (by simpa using hl') (fun a ha => hx a (by simp [ha])) (fun a ha => hx' a (by simp [ha])) r r' e3
    have : cmpS m m' = 0 := by unfold cmpS; rw [← toList_data, ← toList_data, e0]; simp
    rw [cmpK_lx]
    simp only [List.headD_cons, List.tail_cons, if_true, this, e2, e4]
    exact ⟨rfl, e5⟩
    all_goals (intros; simp_all)
  | _ :: _, _ :: _, _, _, _, _, [], _, hl, _, _, _, _, _, _ => by simp at hl
  | _ :: _, _ :: _, _, _, _, _, _ :: _, [], _, hl', _, _, _, _, _ => by simp at hl'
theorem otail_inj : ∀ (ks ks' : List VT) (d d' : Nat), PartsK ks d → PartsK ks' d' → ∀ (ns ns' : List ByteArray), ks.length = ns.length → ks'.length = ns'.length → (∀ m ∈ ns, NameOk m) → (∀ m ∈ ns', NameOk m) → ∀ r r' : List UInt8, Lib.joinTail [44] (showO ns (showK ks)) ++ 125 :: r = Lib.joinTail [44] (showO ns' (showK ks')) ++ 125 :: r' → cmpK true ks ks' ns ns' = 0 ∧ r = r'
  | [], [], _, _, _, _, ns, ns', hl, hl', _, _, r, r', e => by
    obtain rfl : ns = [] := List.eq_nil_of_length_eq_zero (by simpa using hl.symm)
    obtain rfl : ns' = [] := List.eq_nil_of_length_eq_zero (by simpa using hl'.symm)
    rw [cmpK]
    exact ⟨rfl, by simpa [showK, showO, Lib.joinTail] using e⟩
  | [], k' :: ks', d, d', _, h', ns, m' :: ns', hl, hl', _, hx', r, r', e => by
    obtain rfl : ns = [] := List.eq_nil_of_length_eq_zero (by simpa using hl.symm)
    simp [showK, showO, Lib.joinTail] at e
  | [], _ :: _, _, _, _, _, _, [], _, hl', _, _, _, _, _ => by simp at hl'
  | k :: ks, [], d, d', h, _, m :: ns, ns', hl, hl', hx, _, r, r', e => by
    obtain rfl : ns' = [] := List.eq_nil_of_length_eq_zero (by simpa using hl'.symm)
    simp [showK, showO, Lib.joinTail] at e
  | _ :: _, [], _, _, _, _, [], _, hl, _, _, _, _, _, _ => by simp at hl
  | k :: ks, k' :: ks', d, d', h, h', m :: ns, m' :: ns', hl, hl', hx, hx', r, r', e => by
    rw [PartsK] at h h'
    rw [showK, showK, showO, showO, joinTail_cons, joinTail_cons] at e
    simp only [List.append_assoc, List.cons_append, List.cons.injEq, true_and] at e
    obtain ⟨e0, e1⟩ := cut_same (fun b => b ≠ 58) _ _ _ _ (fun b hb => (name_bytes (hx m (by simp)) b hb).1) (fun b hb => (name_bytes (hx' m' (by simp)) b hb).1) (fun c t h hc => by cases h; exact hc rfl) (fun c t h hc => by cases h; exact hc rfl) e
    obtain ⟨e2, e3⟩ := show_inj k k' d d' h.1 h'.1 _ _ (sep_tail _ 125 (.inr rfl) _) (sep_tail _ 125 (.inr rfl) _) (List.cons.inj e1).2
    obtain ⟨e4, e5⟩ := otail_inj ks ks' d d' h.2 h'.2 ns ns' (by simpa using hl) (by simpa using hl') (fun a ha => hx a (by simp [ha])) (fun a ha => hx' a (by simp [ha])) r r' e3
    have : cmpS m m' = 0 := by unfold cmpS; rw [← toList_data, ← toList_data, e0]; simp
    rw [cmpK_lx]
    simp only [List.headD_cons, List.tail_cons, if_true, this, e2, e4]
    exact ⟨rfl, e5⟩
    all_goals (intros; simp_all)
  | _ :: _, _ :: _, _, _, _, _, [], _, hl, _, _, _, _, _, _ => by simp at hl
  | _ :: _, _ :: _, _, _, _, _, _ :: _, [], _, hl', _, _, _, _, _ => by simp at hl'
end

theorem lx_zero {x r : Int} (h : lx x r = 0) : x = 0 ∧ r = 0 := by
  unfold Go.Proofs.YtgmigloafcejdaaGreatDoor.lx at h
  by_cases e : x = 0
  · rw [if_pos e] at h; exact ⟨e, h⟩
  · rw [if_neg e] at h; exact absurd h e
theorem cmpS_zero {a b : ByteArray} (h : cmpS a b = 0) : a.data.toList = b.data.toList := by
  unfold cmpS at h
  cases e : a.toList == b.toList with
  | true => rw [toList_data, toList_data]; exact eq_of_beq e
  | false => rw [e] at h; exact absurd h (firstI_ne _)
mutual
theorem show_same : ∀ (T T' : VT) (d d' : Nat), Parts T d → Parts T' d' → cmpT T T' = 0 → showT T = showT T'
  | .node s n t ns ks, .node s' n' t' ns' ks', d, d', h, h', e => by
    rw [Parts] at h h'
    rw [cmpT_lx] at e
    obtain ⟨e1, e⟩ := lx_zero e
    obtain ⟨e2, e⟩ := lx_zero e
    obtain ⟨e3, e4⟩ := lx_zero e
    obtain rfl := cmpI_zero e1
    obtain rfl := cmpI_zero e2
    have e3 := cmpS_zero e3
    rw [showT, showT, e3]
    by_cases h6 : s = 6
    · subst h6
      have hl : ks.length = ns.length := by rcases h.1.2.2 with h | h | h | h | h | h <;> first | exact h.2.2.1 | exact absurd h.1 (by decide)
      have hl' : ks'.length = ns'.length := by rcases h'.1.2.2 with h | h | h | h | h | h <;> first | exact h.2.2.1 | exact absurd h.1 (by decide)
      rw [show_sameO ks ks' _ _ h.2.2 h'.2.2 ns ns' hl hl' e4]
      simp only [if_true]
    · have h6b : (s == 6) = false := by simpa using h6
      rw [h6b] at e4
      rw [show_sameK ks ks' _ _ h.2.2 h'.2.2 ns ns' e4, if_neg h6, if_neg h6]
theorem show_sameK : ∀ (ks ks' : List VT) (d d' : Nat), PartsK ks d → PartsK ks' d' → ∀ ns ns' : List ByteArray, cmpK false ks ks' ns ns' = 0 → showK ks = showK ks'
  | [], [], _, _, _, _, _, _, _ => rfl
  | [], _ :: _, _, _, _, _, _, _, e => by rw [cmpK] at e; simp at e
  | _ :: _, [], _, _, _, _, _, _, e => by rw [cmpK] at e; simp at e
  | k :: ks, k' :: ks', d, d', h, h', ns, ns', e => by
    rw [PartsK] at h h'
    rw [cmpK_lx] at e
    obtain ⟨-, e⟩ := lx_zero e
    obtain ⟨e1, e2⟩ := lx_zero e
    rw [showK, showK, show_same k k' d d' h.1 h'.1 e1, show_sameK ks ks' d d' h.2 h'.2 _ _ e2]
theorem show_sameO : ∀ (ks ks' : List VT) (d d' : Nat), PartsK ks d → PartsK ks' d' → ∀ ns ns' : List ByteArray, ks.length = ns.length → ks'.length = ns'.length → cmpK true ks ks' ns ns' = 0 → showO ns (showK ks) = showO ns' (showK ks')
  | [], [], _, _, _, _, ns, ns', hl, hl', _ => by
    obtain rfl : ns = [] := List.eq_nil_of_length_eq_zero (by simpa using hl.symm)
    obtain rfl : ns' = [] := List.eq_nil_of_length_eq_zero (by simpa using hl'.symm)
    rfl
  | [], _ :: _, _, _, _, _, _, _, _, _, e => by rw [cmpK] at e; simp at e
  | _ :: _, [], _, _, _, _, _, _, _, _, e => by rw [cmpK] at e; simp at e
  | k :: ks, k' :: ks', d, d', h, h', m :: ns, m' :: ns', hl, hl', e => by
    rw [PartsK] at h h'
    rw [cmpK_lx] at e
    obtain ⟨e0, e⟩ := lx_zero e
    obtain ⟨e1, e2⟩ := lx_zero e
    have e0' : cmpS m m' = 0 := e0
    rw [showK, showK, showO, showO, show_same k k' d d' h.1 h'.1 e1, show_sameO ks ks' d d' h.2 h'.2 ns ns' (by simpa using hl) (by simpa using hl') e2, cmpS_zero e0']
  | _ :: _, _ :: _, _, _, _, _, [], _, hl, _, _ => by simp at hl
  | _ :: _, _ :: _, _, _, _, _, _ :: _, [], _, hl', _ => by simp at hl'
end
/-- of values that are ok: they are the same in the order just if their texts are -/
theorem cmp_show (T T' : VT) (d d' : Nat) (h : Parts T d) (h' : Parts T' d') : cmpT T T' = 0 ↔ showT T = showT T' :=
  ⟨show_same T T' d d' h h', fun e => (show_inj T T' d d' h h' [] [] (fun c t h => by cases h) (fun c t h => by cases h) (by rw [e])).1⟩
theorem cmpI_range (a b : Int) : cmpI a b = 0 ∨ cmpI a b = 1 ∨ cmpI a b = -1 := by
  unfold cmpI firstI
  split
  · exact .inl rfl
  · split <;> simp
theorem cmpS_range (a b : ByteArray) : cmpS a b = 0 ∨ cmpS a b = 1 ∨ cmpS a b = -1 := by
  unfold cmpS firstI
  split
  · exact .inl rfl
  · split <;> simp
mutual
theorem cmpT_range : ∀ a b : VT, cmpT a b = 0 ∨ cmpT a b = 1 ∨ cmpT a b = -1
  | .node s n t ns ks, .node s' n' t' ns' ks' => by
    rw [cmpT_lx]
    have hl : ∀ {x r : Int}, (x = 0 ∨ x = 1 ∨ x = -1) → (r = 0 ∨ r = 1 ∨ r = -1) → (lx x r = 0 ∨ lx x r = 1 ∨ lx x r = -1) := fun {x r} h1 h2 => by unfold Go.Proofs.YtgmigloafcejdaaGreatDoor.lx; split <;> assumption
    exact hl (cmpI_range _ _) (hl (cmpI_range _ _) (hl (cmpS_range _ _) (cmpK_range _ ks ks' ns ns')))
theorem cmpK_range : ∀ (o : Bool) (a b : List VT) (x y : List ByteArray), cmpK o a b x y = 0 ∨ cmpK o a b x y = 1 ∨ cmpK o a b x y = -1
  | o, [], [], x, y => by rw [cmpK]; exact .inl rfl
  | o, [], _ :: _, x, y => by rw [cmpK]; exact .inr (.inl rfl)
  | o, _ :: _, [], x, y => by rw [cmpK]; exact .inr (.inr rfl)
  | o, k :: ks, k' :: ks', x, y => by
    rw [cmpK_lx]
    have hl : ∀ {x r : Int}, (x = 0 ∨ x = 1 ∨ x = -1) → (r = 0 ∨ r = 1 ∨ r = -1) → (lx x r = 0 ∨ lx x r = 1 ∨ lx x r = -1) := fun {x r} h1 h2 => by unfold Go.Proofs.YtgmigloafcejdaaGreatDoor.lx; split <;> assumption
    refine hl ?_ (hl (cmpT_range k k') (cmpK_range o ks ks' x.tail y.tail))
    cases o with
    | true => exact cmpS_range _ _
    | false => exact .inl rfl
end

theorem less_self (T : VT) : ¬ LessT T T := fun h => by
  have := cmpT_neg T T
  have := h.2.2
  omega
theorem less_both (T T' : VT) : ¬ (LessT T T' ∧ LessT T' T) := fun h => by
  have := cmpT_neg T T'
  have := h.1.2.2
  have := h.2.2.2
  omega
theorem less_trans {T T' T'' : VT} (h : LessT T T') (h' : LessT T' T'') : LessT T T'' := ⟨h.1, h'.2.1, (tr_val T T' T'').2.2.1 h.2.2 h'.2.2⟩
theorem less_show {T T' : VT} (h : OkT T) (h' : OkT T') : (LessT T T' ∨ LessT T' T) ↔ showT T ≠ showT T' := by
  rw [ne_eq, ← cmp_show T T' 1 1 h.1 h'.1]
  have hn := cmpT_neg T T'
  constructor
  · rintro (k | k) e
    · have := k.2.2; omega
    · have := k.2.2; omega
  · intro e
    rcases cmpT_range T T' with k | k | k
    · exact absurd k e
    · exact .inl ⟨h, h', k⟩
    · exact .inr ⟨h', h, by omega⟩
end Go.Proofs.YtgmigloafcejdaaGreatDoor
