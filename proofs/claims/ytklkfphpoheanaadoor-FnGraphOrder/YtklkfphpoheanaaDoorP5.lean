/- Rings: the way from the least that cannot come, the ring at its end, turned. -/
import Derived.Test.YtklkfphpoheanaaDoorC1
import Derived.Test.YtklkfphpoheanaaDoorC2
import Derived.Test.YtklkfphpoheanaaDoorC4
namespace Go.Proofs.YtklkfphpoheanaaDoor
open Go.RowKit

theorem NextE.one {E : List (Int × Int)} {of : Int} {D : List Int} {r r' : Int} (h : NextE E of D r) (h' : NextE E of D r') : r = r' := by
  rcases h with ⟨rfl, h⟩ | ⟨h0, h1, h2, h3⟩ <;> rcases h' with ⟨rfl, k⟩ | ⟨k0, k1, k2, k3⟩
  · rfl
  · exact absurd (h _ k1 rfl) k2
  · exact absurd (k _ h1 rfl) h2
  · have := h3 _ k1 rfl k2
    have := k3 _ h1 rfl h2
    simp only at *
    omega

inductive Way (E : List (Int × Int)) (D : List Int) (a0 : Int) : List Int → Int → Prop
  | start : Way E D a0 [] a0
  | step {W : List Int} {a r : Int} : Way E D a0 W a → ¬ a ∈ W → NextE E a D r → Way E D a0 (W ++ [a]) r

theorem Way.nodup {E : List (Int × Int)} {D : List Int} {a0 : Int} {W : List Int} {a : Int} (h : Way E D a0 W a) : W.Nodup := by
  induction h with
  | start => simp
  | step _ hn _ ih =>
    rw [List.nodup_append]
    refine ⟨ih, by simp, fun x hx y hy => ?_⟩
    simp at hy
    subst hy
    intro e
    subst e
    exact hn hx
theorem Way.nil_inv {E : List (Int × Int)} {D : List Int} {a0 a : Int} {W : List Int} (h : Way E D a0 W a) (hW : W.length = 0) : W = [] ∧ a = a0 := by
  cases h with
  | start => exact ⟨rfl, rfl⟩
  | step _ _ _ => simp at hW
theorem Way.pre {E : List (Int × Int)} {D : List Int} {a0 : Int} {W' : List Int} {a' : Int} (h' : Way E D a0 W' a') : ∀ W a, Way E D a0 W a → W.length ≤ W'.length → (W = W' ∧ a = a') ∨ ∃ S, W' = W ++ a :: S := by
  induction h' with
  | start =>
    intro W a h hl
    obtain ⟨e1, e2⟩ := h.nil_inv (by simpa using hl)
    exact .inl ⟨e1, e2⟩
  | @step W1 a1 r h1 hn hx ih =>
    intro W a h hl
    by_cases hle : W.length ≤ W1.length
    · rcases ih W a h hle with ⟨rfl, rfl⟩ | ⟨S, hS⟩
      · exact .inr ⟨[], rfl⟩
      · exact .inr ⟨S ++ [a1], by rw [hS]; simp⟩
    · cases h with
      | start => simp at hle
      | @step W2 a2 _ h2 hn2 hx2 =>
        simp at hl hle
        rcases ih W2 a2 h2 (by omega) with ⟨rfl, rfl⟩ | ⟨S, hS⟩
        · exact .inl ⟨rfl, hx2.one hx⟩
        · exfalso
          rw [hS] at hle
          simp at hle
theorem Way.one {E : List (Int × Int)} {D : List Int} {a0 : Int} {W W' : List Int} {a a' : Int} (h : Way E D a0 W a) (h' : Way E D a0 W' a') (ha : a ∈ W) (ha' : a' ∈ W') : W = W' ∧ a = a' := by
  rcases Nat.le_total W.length W'.length with hl | hl
  · rcases h'.pre W a h hl with e | ⟨S, hS⟩
    · exact e
    · have := h'.nodup
      rw [hS, List.nodup_append] at this
      exact absurd rfl (this.2.2 a ha a (by simp))
  · rcases h.pre W' a' h' hl with e | ⟨S, hS⟩
    · exact ⟨e.1.symm, e.2.symm⟩
    · have := h.nodup
      rw [hS, List.nodup_append] at this
      exact absurd rfl (this.2.2 a' ha' a' (by simp))

theorem AtI.one {L : List Int} {k r r' : Int} (h : AtI L k r) (h' : AtI L k r') : r = r' := by
  rcases h with ⟨j, rfl, hj, e, hn⟩ | ⟨rfl, hn⟩ <;> rcases h' with ⟨j', rfl, hj', e', hn'⟩ | ⟨rfl, hn'⟩
  · rcases Nat.lt_trichotomy j j' with hl | hl | hl
    · exact absurd e (hn' j hl)
    · rw [hl]
    · exact absurd e' (hn j' hl)
  · exact absurd (mem_of_at hj e) hn'
  · exact absurd (mem_of_at hj' e') hn
  · rfl
theorem AtI.yes {L : List Int} {k r : Int} (h : AtI L k r) (hk : k ∈ L) : ∃ j : Nat, r = j ∧ j < L.length ∧ L.getD j 0 = k ∧ ∀ q, q < j → L.getD q 0 ≠ k := by
  rcases h with h | ⟨_, hn⟩
  · exact h
  · exact absurd hk hn

/-- a ring from its least on -/
def TurnOf (R L : List Int) : Prop := ∃ (m : Int) (l : Nat), m ∈ R ∧ (∀ x ∈ R, m ≤ x) ∧ AtI R m l ∧ L = R.drop l ++ R.take l
theorem TurnOf.one {R L L' : List Int} (h : TurnOf R L) (h' : TurnOf R L') : L = L' := by
  obtain ⟨m, l, h1, h2, h3, rfl⟩ := h
  obtain ⟨m', l', k1, k2, k3, rfl⟩ := h'
  obtain rfl : m = m' := by
    have := h2 _ k1
    have := k2 _ h1
    omega
  have := h3.one k3
  obtain rfl : l = l' := by omega
  rfl
theorem TurnOf.len {R L : List Int} (h : TurnOf R L) : L.length = R.length := by
  obtain ⟨m, l, _, _, _, rfl⟩ := h
  simp
  omega

/-- the least of those that cannot come -/
def FirstS (n : Nat) (D : List Int) (a : Int) : Prop := 0 ≤ a ∧ a < n ∧ ¬ a ∈ D ∧ ∀ k : Int, 0 ≤ k → k < a → k ∈ D
theorem FirstS.one {n : Nat} {D : List Int} {a a' : Int} (h : FirstS n D a) (h' : FirstS n D a') : a = a' := by
  obtain ⟨h0, h1, h2, h3⟩ := h
  obtain ⟨k0, k1, k2, k3⟩ := h'
  apply Classical.byContradiction
  intro hne
  rcases (show a < a' ∨ a' < a from by omega) with hl | hl
  · exact h2 (k3 a h0 hl)
  · exact k2 (h3 a' k0 hl)
def RingIs (n : Nat) (E : List (Int × Int)) (D : List Int) (L : List Int) : Prop :=
  ∃ (a0 : Int) (W : List Int) (a : Int) (f : Nat), FirstS n D a0 ∧ Way E D a0 W a ∧ a ∈ W ∧ AtI W a f ∧ TurnOf (W.drop f) L
theorem RingIs.one {n : Nat} {E : List (Int × Int)} {D L L' : List Int} (h : RingIs n E D L) (h' : RingIs n E D L') : L = L' := by
  obtain ⟨a0, W, a, f, h1, h2, h3, h4, h5⟩ := h
  obtain ⟨b0, W', b, f', k1, k2, k3, k4, k5⟩ := h'
  obtain rfl := h1.one k1
  obtain ⟨rfl, rfl⟩ := h2.one k2 h3 k3
  have := h4.one k4
  obtain rfl : f = f' := by omega
  exact h5.one k5

/-- what GraphCycle tells -/
def CycSpec (n : Int) (E : List (Int × Int)) (L : List Int) : Prop :=
  (¬ OkG n E ∧ L = []) ∨ (OkG n E ∧ ∃ D, Chain (adj E) n.toNat D ∧ (∀ k, freeB (adj E) n.toNat D k = false) ∧ (((∀ k : Nat, k < n.toNat → (k : Int) ∈ D) ∧ L = []) ∨ RingIs n.toNat E D L))
theorem CycSpec.one {n : Int} {E : List (Int × Int)} {L L' : List Int} (h : CycSpec n E L) (h' : CycSpec n E L') : L = L' := by
  rcases h with ⟨h1, rfl⟩ | ⟨h1, D, hc, hf, h2⟩
  · rcases h' with ⟨_, rfl⟩ | ⟨h1', _⟩
    · rfl
    · exact absurd h1' h1
  · rcases h' with ⟨h1', _⟩ | ⟨_, D', hc', hf', h2'⟩
    · exact absurd h1 h1'
    · obtain rfl := hc.one hc' hf hf'
      have key : ∀ {L : List Int}, (∀ k : Nat, k < n.toNat → (k : Int) ∈ D) → ¬ RingIs n.toNat E D L := fun ha ⟨a0, _, _, _, h1, _⟩ => by
        obtain ⟨h0, h1, h2, _⟩ := h1
        obtain ⟨m, rfl⟩ := Int.eq_ofNat_of_zero_le h0
        exact h2 (ha m (by omega))
      rcases h2 with ⟨a, rfl⟩ | a <;> rcases h2' with ⟨b, rfl⟩ | b
      · rfl
      · exact absurd b (key a)
      · exact absurd a (key b)
      · exact a.one b

/-- those that cannot come go on to one that cannot come -/
theorem next_stuck {n : Nat} (hn : n ≤ 16) {E : List (Int × Int)} (hin : ∀ e ∈ E, In16 n e) {D : List Int} (hf : ∀ k, freeB (adj E) n D k = false) {x r : Int} (h0 : 0 ≤ x) (h1 : x < n) (h2 : ¬ x ∈ D) (h : NextE E x D r) : 0 ≤ r ∧ r < n ∧ ¬ r ∈ D := by
  rcases h with ⟨rfl, h⟩ | ⟨r0, r1, r2, _⟩
  · exfalso
    obtain ⟨k, rfl⟩ := Int.eq_ofNat_of_zero_le h0
    have := hf k
    have hfr : freeB (adj E) n D k = true := (free_iff _ _ _ _).2 ⟨by omega, h2, fun j hj hb => h _ ((adj_iff n E hin k j (by omega)).1 hb) rfl⟩
    rw [hfr] at this
    exact absurd this (by decide)
  · have := hin _ r1
    unfold In16 at this
    simp only at this
    exact ⟨r0, by omega, r2⟩
theorem Way.stuck {n : Nat} (hn : n ≤ 16) {E : List (Int × Int)} (hin : ∀ e ∈ E, In16 n e) {D : List Int} (hf : ∀ k, freeB (adj E) n D k = false) {a0 : Int} (h0 : 0 ≤ a0 ∧ a0 < n ∧ ¬ a0 ∈ D) {W : List Int} {a : Int} (h : Way E D a0 W a) : (0 ≤ a ∧ a < n ∧ ¬ a ∈ D) ∧ ∀ x ∈ W, 0 ≤ x ∧ x < n ∧ ¬ x ∈ D := by
  induction h with
  | start => exact ⟨h0, fun x hx => by simp at hx⟩
  | step _ _ hx ih =>
    refine ⟨next_stuck hn hin hf ih.1.1 ih.1.2.1 ih.1.2.2 hx, fun x hm => ?_⟩
    rw [List.mem_append, List.mem_singleton] at hm
    rcases hm with hm | rfl
    · exact ih.2 x hm
    · exact ih.1
theorem Way.len {n : Nat} (hn : n ≤ 16) {E : List (Int × Int)} (hin : ∀ e ∈ E, In16 n e) {D : List Int} (hf : ∀ k, freeB (adj E) n D k = false) {a0 : Int} (h0 : 0 ≤ a0 ∧ a0 < n ∧ ¬ a0 ∈ D) {W : List Int} {a : Int} (h : Way E D a0 W a) : W.length ≤ n :=
  nodup_le n W h.nodup fun x hx => ⟨((h.stuck hn hin hf h0).2 x hx).1, ((h.stuck hn hin hf h0).2 x hx).2.1⟩
theorem CycSpec.len {n : Int} {E : List (Int × Int)} {L : List Int} (h : CycSpec n E L) : L.length ≤ 16 := by
  rcases h with ⟨_, rfl⟩ | ⟨⟨o0, o1, o2⟩, D, hc, hf, ⟨_, rfl⟩ | ⟨a0, W, a, f, h1, h2, h3, h4, h5⟩⟩
  · simp
  · simp
  · obtain ⟨m, rfl⟩ := Int.eq_ofNat_of_zero_le o0
    have := h2.len (n := m) (by omega) o2 hf ⟨h1.1, h1.2.1, h1.2.2.1⟩
    rw [h5.len]
    simp
    omega

/-- impl's next one is the document's -/
theorem next_least {n : Nat} (hn : n ≤ 16) {E : List (Int × Int)} (hin : ∀ e ∈ E, In16 n e) {D : List Int} {s t x : Nat} (hs : ∀ j, s.testBit j = decide (j < n ∧ ¬ (j : Int) ∈ D)) (hx : x < n) (h : Least ((adj E).getD x 0 &&& s) t) : NextE E (x : Int) D (t : Int) := by
  obtain ⟨h1, h2⟩ := h
  rw [Nat.testBit_and, Bool.and_eq_true] at h1
  have hb := h1.2
  rw [hs t] at hb
  have hb := of_decide_eq_true hb
  refine .inr ⟨by omega, (adj_iff n E hin x t (by omega)).1 h1.1, hb.2, fun e he he1 he2 => ?_⟩
  have hi := hin e he
  unfold In16 at hi
  obtain ⟨e1, e2⟩ := e
  simp only at hi he1 he2 ⊢
  obtain ⟨y, rfl⟩ := Int.eq_ofNat_of_zero_le (show 0 ≤ e2 from by omega)
  apply Classical.byContradiction
  intro hlt
  have := h2 y (by omega)
  rw [Nat.testBit_and, hs y, (adj_iff n E hin x y (by omega)).2 (by rw [← he1]; exact he), Bool.true_and] at this
  exact of_decide_eq_false this ⟨by omega, he2⟩
theorem next_ne {n : Nat} (hn : n ≤ 16) {E : List (Int × Int)} (hin : ∀ e ∈ E, In16 n e) {D : List Int} (hf : ∀ k, freeB (adj E) n D k = false) {s x : Nat} (hs : ∀ j, s.testBit j = decide (j < n ∧ ¬ (j : Int) ∈ D)) (hx : x < n) (hxD : ¬ (x : Int) ∈ D) : (adj E).getD x 0 &&& s ≠ 0 := by
  intro hz
  have hfr : freeB (adj E) n D x = true := (free_iff _ _ _ _).2 ⟨hx, hxD, fun j hj hb => by
    have := (zero_iff _).1 hz j
    rw [Nat.testBit_and, hb, Bool.true_and, hs j] at this
    have hm := of_decide_eq_false this
    have hi := hin _ ((adj_iff n E hin x j (by omega)).1 hb)
    unfold In16 at hi
    simp only at hi
    exact Classical.byContradiction fun hn2 => hm ⟨by omega, hn2⟩⟩
  rw [hf x] at hfr
  exact absurd hfr (by decide)
end Go.Proofs.YtklkfphpoheanaaDoor
