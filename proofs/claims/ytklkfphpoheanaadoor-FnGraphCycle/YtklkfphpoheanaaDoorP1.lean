/- What the walk from one over those that it needs comes to: plain numbers. No program is named here. -/
namespace Go.Proofs.YtklkfphpoheanaaDoor

theorem tb_or (s k j : Nat) : (s ||| 2 ^ k).testBit j = (s.testBit j || decide (k = j)) := by
  rw [Nat.testBit_or, Nat.testBit_two_pow]
/-- how many below n are not in s -/
def cnt (n s : Nat) : Nat := ((List.range n).filter fun j => !s.testBit j).length
theorem filt_le (p q : Nat → Bool) (h : ∀ x, p x = true → q x = true) (l : List Nat) : (l.filter p).length ≤ (l.filter q).length := by
  induction l with
  | nil => simp
  | cons x r ih =>
    cases hp : p x
    · rw [List.filter_cons_of_neg (by simp [hp])]
      cases hq : q x
      · rw [List.filter_cons_of_neg (by simp [hq])]; exact ih
      · rw [List.filter_cons_of_pos (by simp [hq]), List.length_cons]; omega
    · rw [List.filter_cons_of_pos (by simp [hp]), List.filter_cons_of_pos (by simp [h x hp]), List.length_cons, List.length_cons]; omega
theorem filt_lt (p q : Nat → Bool) (h : ∀ x, p x = true → q x = true) (k : Nat) (hp : p k = false) (hq : q k = true) (l : List Nat) (hk : k ∈ l) : (l.filter p).length < (l.filter q).length := by
  induction l with
  | nil => cases hk
  | cons x r ih =>
    by_cases hx : k = x
    · subst hx
      have := filt_le p q h r
      rw [List.filter_cons_of_neg (by simp [hp]), List.filter_cons_of_pos (by simp [hq]), List.length_cons]; omega
    · have ih := ih ((List.mem_cons.1 hk).resolve_left hx)
      cases hpx : p x
      · rw [List.filter_cons_of_neg (by simp [hpx])]
        cases hqx : q x
        · rw [List.filter_cons_of_neg (by simp [hqx])]; exact ih
        · rw [List.filter_cons_of_pos (by simp [hqx]), List.length_cons]; omega
      · rw [List.filter_cons_of_pos (by simp [hpx]), List.filter_cons_of_pos (by simp [h x hpx]), List.length_cons, List.length_cons]; omega
theorem cnt_le (n s t : Nat) (h : ∀ j, s.testBit j = true → t.testBit j = true) : cnt n t ≤ cnt n s := by
  refine filt_le _ _ (fun x hx => ?_) _
  cases hs : s.testBit x
  · rfl
  · rw [h x hs] at hx; exact hx
theorem cnt_lt (n s k : Nat) (hk : k < n) (hs : s.testBit k = false) : cnt n (s ||| 2 ^ k) < cnt n s := by
  refine filt_lt _ _ (fun x hx => ?_) k (by rw [tb_or]; simp) (by rw [hs]; rfl) _ (List.mem_range.2 hk)
  rw [tb_or] at hx
  cases hs : s.testBit x
  · rfl
  · rw [hs] at hx; exact hx
/-- the walk: at each that one needs and that is not seen, it is seen and walked from -/
def visit (A : List Nat) (n : Nat) : Nat → Nat → Nat → Nat
  | 0, _, s => s
  | f + 1, one, s => (List.range n).foldl (fun s j => if (A.getD one 0).testBit j && !s.testBit j then visit A n f j (s ||| 2 ^ j) else s) s
def stepV (A : List Nat) (n f one : Nat) (s j : Nat) : Nat := if (A.getD one 0).testBit j && !s.testBit j then visit A n f j (s ||| 2 ^ j) else s
def loopV (A : List Nat) (n f one s k : Nat) : Nat := (List.range k).foldl (stepV A n f one) s
theorem visit_eq (A : List Nat) (n f one s : Nat) : visit A n (f + 1) one s = loopV A n f one s n := rfl
theorem loopV_succ (A : List Nat) (n f one s k : Nat) : loopV A n f one s (k + 1) = stepV A n f one (loopV A n f one s k) k := by
  unfold loopV; rw [List.range_succ, List.foldl_append]; rfl
theorem loop_mono (A : List Nat) (n f one : Nat) (hv : ∀ j s x, s.testBit x = true → (visit A n f j s).testBit x = true) : ∀ k s x, s.testBit x = true → (loopV A n f one s k).testBit x = true
  | 0, _, _, h => h
  | k + 1, s, x, h => by
    rw [loopV_succ]
    have h1 := loop_mono A n f one hv k s x h
    unfold stepV
    split
    · exact hv _ _ x (by rw [tb_or, h1]; rfl)
    · exact h1
theorem visit_mono (A : List Nat) (n : Nat) : ∀ f j s x, s.testBit x = true → (visit A n f j s).testBit x = true
  | 0, _, _, _, h => h
  | f + 1, j, s, x, h => by rw [visit_eq]; exact loop_mono A n f j (visit_mono A n f) n s x h
theorem loopV_mono (A : List Nat) (n f one k s x : Nat) (h : s.testBit x = true) : (loopV A n f one s k).testBit x = true := loop_mono A n f one (visit_mono A n f) k s x h
theorem lt16 (s k : Nat) (hs : s < 65536) (hk : k < 16) : s ||| 2 ^ k < 65536 := Nat.or_lt_two_pow (n := 16) hs (Nat.pow_lt_pow_right (a := 2) (by decide) hk)
theorem loop_lt (A : List Nat) (n f one : Nat) (hv : ∀ j s, s < 65536 → visit A n f j s < 65536) : ∀ k s, k ≤ 16 → s < 65536 → loopV A n f one s k < 65536
  | 0, _, _, h => h
  | k + 1, s, hk, h => by
    rw [loopV_succ]
    have h1 := loop_lt A n f one hv k s (by omega) h
    unfold stepV
    split
    · exact hv _ _ (lt16 _ _ h1 (by omega))
    · exact h1
theorem visit_lt (A : List Nat) (n : Nat) (hn : n ≤ 16) : ∀ f j s, s < 65536 → visit A n f j s < 65536
  | 0, _, _, h => h
  | f + 1, j, s, h => by rw [visit_eq]; exact loop_lt A n f j (visit_lt A n hn f) n s hn h
theorem loopV_lt (A : List Nat) (n f one k s : Nat) (hn : n ≤ 16) (hk : k ≤ 16) (h : s < 65536) : loopV A n f one s k < 65536 := loop_lt A n f one (visit_lt A n hn f) k s hk h
theorem loopV_cnt (A : List Nat) (n f one k s : Nat) : cnt n (loopV A n f one s k) ≤ cnt n s := cnt_le n s _ (fun j hj => loopV_mono A n f one k s j hj)

/-- a need of x on y -/
def edge (A : List Nat) (n x y : Nat) : Prop := y < n ∧ (A.getD x 0).testBit y = true
/-- y is needed by x, at once or by others -/
inductive Reach (A : List Nat) (n : Nat) : Nat → Nat → Prop
  | one {x y : Nat} : edge A n x y → Reach A n x y
  | more {x y z : Nat} : edge A n x y → Reach A n y z → Reach A n x z
theorem Reach.last {A : List Nat} {n x y z : Nat} (h : Reach A n x y) (e : edge A n y z) : Reach A n x z := by
  induction h with
  | one h1 => exact .more h1 (.one e)
  | more h1 _ ih => exact .more h1 (ih e)
/-- what the walk leaves -/
structure Walked (A : List Nat) (n one s t : Nat) (upto : Nat) : Prop where
  more : ∀ x, s.testBit x = true → t.testBit x = true
  here : ∀ j, j < upto → edge A n one j → t.testBit j = true
  shut : ∀ x, t.testBit x = true → s.testBit x = false → x < n ∧ ∀ j, edge A n x j → t.testBit j = true
  only : ∀ x, t.testBit x = true → s.testBit x = true ∨ Reach A n one x
theorem walk_loop (A : List Nat) (n f one : Nat) (hv : ∀ j s, j < n → cnt n s < f → Walked A n j s (visit A n f j s) n) : ∀ k s, k ≤ n → cnt n s ≤ f → Walked A n one s (loopV A n f one s k) k
  | 0, s, _, _ => ⟨fun _ h => h, fun j hj => absurd hj (Nat.not_lt_zero _), (fun x h1 h2 => by rw [show loopV A n f one s 0 = s from rfl, h2] at h1; exact absurd h1 (by simp)), fun _ h => .inl h⟩
  | k + 1, s, hk, hc => by
    have ih := walk_loop A n f one hv k s (by omega) hc
    have hcl := loopV_cnt A n f one k s
    rw [loopV_succ]
    generalize loopV A n f one s k = t at ih hcl
    unfold stepV
    by_cases hb : ((A.getD one 0).testBit k && !t.testBit k) = true
    · rw [if_pos hb]
      simp only [Bool.and_eq_true, Bool.not_eq_true'] at hb
      obtain ⟨hb1, hb2⟩ := hb
      have hlt := cnt_lt n t k (by omega) hb2
      have W := hv k (t ||| 2 ^ k) (by omega) (by omega)
      generalize visit A n f k (t ||| 2 ^ k) = u at W
      have hek : edge A n one k := ⟨by omega, hb1⟩
      have htu : ∀ x, t.testBit x = true → u.testBit x = true := fun x hx => W.more x (by rw [tb_or, hx]; rfl)
      have hku : u.testBit k = true := W.more k (by rw [tb_or]; simp)
      refine ⟨fun x hx => htu x (ih.more x hx), fun j hj he => ?_, fun x h1 h2 => ?_, fun x hx => ?_⟩
      · by_cases hjk : j = k
        · subst hjk; exact hku
        · exact htu j (ih.here j (by omega) he)
      · by_cases htx : t.testBit x = true
        · obtain ⟨a, b⟩ := ih.shut x htx h2
          exact ⟨a, fun j he => htu j (b j he)⟩
        · have htx' : t.testBit x = false := by simpa using htx
          by_cases hxk : x = k
          · subst hxk
            exact ⟨by omega, fun j he => W.here j he.1 he⟩
          · exact W.shut x h1 (by rw [tb_or, htx']; simp; omega)
      · rcases W.only x hx with h | h
        · rw [tb_or] at h
          simp only [Bool.or_eq_true, decide_eq_true_eq] at h
          rcases h with h | h
          · exact ih.only x h
          · subst h; exact .inr (.one hek)
        · exact .inr (.more hek h)
    · rw [if_neg hb]
      refine ⟨ih.more, fun j hj he => ?_, ih.shut, ih.only⟩
      by_cases hjk : j = k
      · subst hjk
        simp only [Bool.and_eq_true, Bool.not_eq_true', not_and, Bool.not_eq_false] at hb
        exact hb he.2
      · exact ih.here j (by omega) he
theorem walk_all (A : List Nat) (n : Nat) : ∀ f j s, j < n → cnt n s < f → Walked A n j s (visit A n f j s) n
  | 0, _, _, _, h => absurd h (Nat.not_lt_zero _)
  | f + 1, j, s, _, h => by rw [visit_eq]; exact walk_loop A n f j (walk_all A n f) n s (Nat.le_refl _) (by omega)
theorem cnt_max (n s : Nat) : cnt n s ≤ n := by
  unfold cnt
  have := List.length_filter_le (fun j => !s.testBit j) (List.range n)
  simpa using this
/-- from nothing seen: just what one needs -/
theorem below_iff (A : List Nat) (n one : Nat) (h1 : one < n) (x : Nat) : (visit A n (n + 1) one 0).testBit x = true ↔ Reach A n one x := by
  have W := walk_all A n (n + 1) one 0 h1 (by have := cnt_max n 0; omega)
  generalize visit A n (n + 1) one 0 = t at W
  constructor
  · intro h
    rcases W.only x h with h | h
    · simp at h
    · exact h
  · intro h
    have closed : ∀ y z, t.testBit y = true → Reach A n y z → t.testBit z = true := fun y z hy hr => by
      induction hr with
      | one e => exact (W.shut _ hy (by simp)).2 _ e
      | more e _ ih => exact ih ((W.shut _ hy (by simp)).2 _ e)
    cases h with
    | one e => exact W.here _ e.1 e
    | more e r => exact closed _ _ (W.here _ e.1 e) r

end Go.Proofs.YtklkfphpoheanaaDoor
