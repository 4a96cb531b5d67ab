/- What one needs, by the list of needs: plain. No program is named here. -/
import Derived.Test.YtklkfphpoheanaaDoorP1
import Derived.Test.YtklkfphpoheanaaDoorG4
import Derived.Test.YtklkfphpoheanaaDoorS1
namespace Go.Proofs.YtklkfphpoheanaaDoor
open Go.RowKit

theorem upd_bit (A : List Nat) (hA : A.length = 16) (e : Int × Int) (x y : Nat) (hx : x < 16) : ((upd A e).getD x 0).testBit y = true ↔ (A.getD x 0).testBit y = true ∨ (e.1.toNat = x ∧ e.2.toNat = y) := by
  unfold upd
  by_cases h : e.1.toNat = x
  · subst h
    rw [show (A.set e.1.toNat (A.getD e.1.toNat 0 ||| 2 ^ e.2.toNat)).getD e.1.toNat 0 = A.getD e.1.toNat 0 ||| 2 ^ e.2.toNat from by
      rw [List.getD_eq_getElem?_getD, List.getElem?_set_self (by omega)]; rfl]
    rw [tb_or]
    simp
  · rw [show (A.set e.1.toNat (A.getD e.1.toNat 0 ||| 2 ^ e.2.toNat)).getD x 0 = A.getD x 0 from by
      rw [List.getD_eq_getElem?_getD, List.getElem?_set_ne h, List.getD_eq_getElem?_getD]]
    simp [h]
theorem fold_bit (n : Nat) (x y : Nat) (hx : x < 16) : ∀ (E : List (Int × Int)) (A : List Nat), A.length = 16 → (∀ e ∈ E, In16 n e) → (((E.foldl upd A).getD x 0).testBit y = true ↔ (A.getD x 0).testBit y = true ∨ ((x : Int), (y : Int)) ∈ E)
  | [], A, _, _ => by simp
  | e :: r, A, hA, h => by
    rw [List.foldl_cons, fold_bit n x y hx r (upd A e) (by rw [upd_len]; exact hA) (fun q hq => h q (List.mem_cons_of_mem _ hq)), upd_bit A hA e x y hx, List.mem_cons]
    have he := h e List.mem_cons_self
    unfold In16 at he
    have : (e.1.toNat = x ∧ e.2.toNat = y) ↔ ((x : Int), (y : Int)) = e := by
      constructor
      · rintro ⟨h1, h2⟩
        exact Prod.ext (by simp; omega) (by simp; omega)
      · rintro rfl
        simp
    rw [this, or_assoc]
theorem adj_iff (n : Nat) (E : List (Int × Int)) (h : ∀ e ∈ E, In16 n e) (x y : Nat) (hx : x < 16) : ((adj E).getD x 0).testBit y = true ↔ ((x : Int), (y : Int)) ∈ E := by
  unfold adj
  rw [fold_bit n x y hx E _ (by simp) h]
  have : ((List.replicate 16 0).getD x 0).testBit y = false := by
    rw [List.getD_eq_getElem?_getD, List.getElem?_replicate]
    split <;> simp
  rw [this]
  simp

/-- y is needed by x, at once or by others -/
inductive RE (E : List (Int × Int)) : Int → Int → Prop
  | one {x y : Int} : (x, y) ∈ E → RE E x y
  | more {x y z : Int} : (x, y) ∈ E → RE E y z → RE E x z
theorem RE.last {E : List (Int × Int)} {x y z : Int} (h : RE E x y) (e : (y, z) ∈ E) : RE E x z := by
  induction h with
  | one h1 => exact .more h1 (.one e)
  | more h1 _ ih => exact .more h1 (ih e)
theorem RE.ends {E : List (Int × Int)} {x z : Int} (h : RE E x z) : ∃ y, (y = x ∨ RE E x y) ∧ (y, z) ∈ E := by
  induction h with
  | one h1 => exact ⟨_, .inl rfl, h1⟩
  | more h1 _ ih =>
    obtain ⟨y, hy, he⟩ := ih
    refine ⟨y, .inr ?_, he⟩
    rcases hy with rfl | hy
    · exact .one h1
    · exact .more h1 hy
theorem reach_re (n : Nat) (hn : n ≤ 16) (E : List (Int × Int)) (h : ∀ e ∈ E, In16 n e) (x y : Nat) (hx : x < n) : Reach (adj E) n x y ↔ RE E x y := by
  constructor
  · intro hr
    have : ∀ a b, Reach (adj E) n a b → a < n → RE E (a : Int) (b : Int) := fun a b hr => by
      induction hr with
      | one e => intro ha; exact .one ((adj_iff n E h _ _ (by omega)).1 e.2)
      | more e _ ih => intro ha; exact .more ((adj_iff n E h _ _ (by omega)).1 e.2) (ih e.1)
    exact this x y hr hx
  · intro hr
    have : ∀ a b, RE E a b → ∀ p q : Nat, a = p → b = q → p < n → Reach (adj E) n p q := fun a b hr => by
      induction hr with
      | one e =>
        intro p q hp hq hpn
        subst hp hq
        have he := h _ e
        unfold In16 at he
        exact .one ⟨by simp at he; omega, (adj_iff n E h _ _ (by omega)).2 e⟩
      | @more a c b e _ ih =>
        intro p q hp hq hpn
        subst hp hq
        have he := h _ e
        unfold In16 at he
        simp only at he
        obtain ⟨m, rfl⟩ := Int.eq_ofNat_of_zero_le he.2.2.1
        exact .more ⟨by omega, (adj_iff n E h _ _ (by omega)).2 e⟩ (ih m q rfl rfl (by omega))
    exact this _ _ hr x y rfl rfl hx
theorem below_bit (n : Nat) (hn : n ≤ 16) (E : List (Int × Int)) (h : ∀ e ∈ E, In16 n e) (x y : Nat) (hx : x < n) : (visit (adj E) n (n + 1) x 0).testBit y = true ↔ RE E x y := by
  rw [below_iff _ n x hx, reach_re n hn E h x y hx]

theorem filt_ne (X : List Int) (a : Int) (h : X.Nodup) : X.length ≤ (X.filter (fun x => x != a)).length + 1 := by
  induction X with
  | nil => simp
  | cons x r ih =>
    rw [List.nodup_cons] at h
    by_cases hx : x = a
    · subst hx
      rw [List.filter_cons_of_neg (by simp), List.length_cons]
      have : r.filter (fun y => y != x) = r := List.filter_eq_self.2 (fun y hy => by simp; intro e; subst e; exact h.1 hy)
      rw [this]
      omega
    · rw [List.filter_cons_of_pos (by simp [hx]), List.length_cons, List.length_cons]
      have := ih h.2
      omega
/-- a list without doubles of numbers below n is no longer than n -/
theorem nodup_le : ∀ (n : Nat) (X : List Int), X.Nodup → (∀ x ∈ X, 0 ≤ x ∧ x < (n : Int)) → X.length ≤ n
  | 0, X, _, h => by
    cases X with
    | nil => simp
    | cons x r => have := h x List.mem_cons_self; omega
  | n + 1, X, hd, h => by
    have h1 := filt_ne X n hd
    have h2 := nodup_le n (X.filter (fun x => x != (n : Int))) (hd.filter _) (fun x hx => by
      obtain ⟨a, b⟩ := List.mem_filter.1 hx
      have := h x a
      simp at b
      omega)
    omega

theorem any_take (E : List (Int × Int)) (p : Int × Int → Bool) (k : Nat) (hk : k < E.length) : (E.take (k + 1)).any p = ((E.take k).any p || p (E.getD k (0, 0))) := by
  rw [List.take_succ_eq_append_getElem hk, List.any_append]
  simp [hk]

/-- what has been seen on the way -/
structure Bfs (E : List (Int × Int)) (of : Int) (n : Nat) (X : List Int) (i k : Nat) : Prop where
  head : of ∈ X
  nd : X.Nodup
  lt : ∀ x ∈ X, 0 ≤ x ∧ x < (n : Int)
  rch : ∀ x ∈ X, x = of ∨ RE E of x
  shut : ∀ j, j < i → ∀ e ∈ E, e.1 = X.getD j 0 → e.2 ∈ X
  here : ∀ e ∈ E.take k, e.1 = X.getD i 0 → e.2 ∈ X
theorem getD_app (X : List Int) (y : Int) (j : Nat) (h : j < X.length) : (X ++ [y]).getD j 0 = X.getD j 0 := by
  rw [List.getD_eq_getElem?_getD, List.getElem?_append_left h, List.getD_eq_getElem?_getD]
theorem Bfs.start (E : List (Int × Int)) (of : Int) (n : Nat) (h0 : 0 ≤ of) (h1 : of < n) : Bfs E of n [of] 0 0 :=
  ⟨by simp, by simp, by intro x hx; simp at hx; omega, by intro x hx; simp at hx; exact .inl hx, fun j hj => absurd hj (Nat.not_lt_zero _), by simp⟩
theorem take_mem {E : List (Int × Int)} {k : Nat} (hk : k < E.length) {e : Int × Int} (he : e ∈ E.take (k + 1)) : e ∈ E.take k ∨ e = E.getD k (0, 0) := by
  rw [List.take_succ_eq_append_getElem hk] at he
  rcases List.mem_append.1 he with he | he
  · exact .inl he
  · exact .inr (by simpa [hk] using he)
theorem Bfs.pass {E : List (Int × Int)} {of : Int} {n : Nat} {X : List Int} {i k : Nat} (h : Bfs E of n X i k) (hk : k < E.length) (hx : (E.getD k (0, 0)).1 = X.getD i 0 → (E.getD k (0, 0)).2 ∈ X) : Bfs E of n X i (k + 1) :=
  ⟨h.head, h.nd, h.lt, h.rch, h.shut, fun e he hi => by
    rcases take_mem hk he with he | rfl
    · exact h.here e he hi
    · exact hx hi⟩
theorem Bfs.add {E : List (Int × Int)} {of : Int} {n : Nat} {X : List Int} {i k : Nat} (h : Bfs E of n X i k) (hin : ∀ e ∈ E, In16 n e) (hi : i < X.length) (hk : k < E.length) (h1 : (E.getD k (0, 0)).1 = X.getD i 0) (h2 : ¬ (E.getD k (0, 0)).2 ∈ X) : Bfs E of n (X ++ [(E.getD k (0, 0)).2]) i (k + 1) := by
  have hm := mem_getD E k hk
  have hxi : X.getD i 0 ∈ X := by rw [show X.getD i 0 = X[i] from by simp [hi]]; exact List.getElem_mem hi
  have hT : ∀ e ∈ E.take (k + 1), e ∈ E.take k ∨ e = E.getD k (0, 0) := fun e he => take_mem hk he
  generalize E.getD k (0, 0) = e0 at *
  have he0 := hin e0 hm
  unfold In16 at he0
  refine ⟨List.mem_append_left _ h.head, ?_, ?_, ?_, fun j hj e he hj2 => ?_, fun e he hj2 => ?_⟩
  · rw [List.nodup_append]
    exact ⟨h.nd, by simp, fun a ha b hb => by simp at hb; subst hb; intro e; subst e; exact h2 ha⟩
  · intro x hx
    rcases List.mem_append.1 hx with hx | hx
    · exact h.lt x hx
    · simp at hx; subst hx; exact he0.2.2
  · intro x hx
    rcases List.mem_append.1 hx with hx | hx
    · exact h.rch x hx
    · simp at hx; subst hx
      have hm' : (e0.1, e0.2) ∈ E := hm
      rw [h1] at hm'
      rcases h.rch _ hxi with hr | hr
      · rw [hr] at hm'; exact .inr (.one hm')
      · exact .inr (hr.last hm')
  · rw [getD_app X _ j (by omega)] at hj2
    exact List.mem_append_left _ (h.shut j hj e he hj2)
  · rw [getD_app X _ i hi] at hj2
    rcases hT e he with he | rfl
    · exact List.mem_append_left _ (h.here e he hj2)
    · exact List.mem_append_right _ (by simp)
theorem Bfs.next {E : List (Int × Int)} {of : Int} {n : Nat} {X : List Int} {i : Nat} (h : Bfs E of n X i E.length) : Bfs E of n X (i + 1) 0 :=
  ⟨h.head, h.nd, h.lt, h.rch, fun j hj e he hj2 => by
    by_cases hji : j = i
    · subst hji; exact h.here e (by rw [List.take_length]; exact he) hj2
    · exact h.shut j (by omega) e he hj2, by simp⟩
theorem Bfs.done {E : List (Int × Int)} {of : Int} {n : Nat} {X : List Int} {k : Nat} (h : Bfs E of n X X.length k) (y : Int) : ((decide (y ∈ X) && ((y != of) || E.any fun e => decide (e.2 = of) && decide (e.1 ∈ X))) = true) ↔ RE E of y := by
  have closed : ∀ e ∈ E, e.1 ∈ X → e.2 ∈ X := fun e he hx => by
    obtain ⟨j, hj, e1⟩ := List.mem_iff_getElem.1 hx
    exact h.shut j hj e he (by simp [hj, e1])
  have all : ∀ a b, RE E a b → a ∈ X → b ∈ X := fun a b hr => by
    induction hr with
    | one e => exact fun ha => closed _ e ha
    | more e _ ih => exact fun ha => ih (closed _ e ha)
  simp only [Bool.and_eq_true, Bool.or_eq_true, decide_eq_true_eq, bne_iff_ne, List.any_eq_true]
  constructor
  · rintro ⟨hy, hy2⟩
    rcases h.rch y hy with rfl | hr
    · rcases hy2 with hy2 | ⟨e, he, h1, h2⟩
      · exact absurd rfl hy2
      · have hm : (e.1, e.2) ∈ E := he
        rw [h1] at hm
        rcases h.rch _ h2 with hr | hr
        · rw [hr] at hm; exact .one hm
        · exact hr.last hm
    · exact hr
  · intro hr
    refine ⟨all _ _ hr h.head, ?_⟩
    by_cases hyo : y = of
    · subst hyo
      obtain ⟨z, hz, he⟩ := hr.ends
      refine .inr ⟨_, he, rfl, ?_⟩
      rcases hz with rfl | hz
      · exact h.head
      · exact all _ _ hz h.head
    · exact .inl hyo

end Go.Proofs.YtklkfphpoheanaaDoor
