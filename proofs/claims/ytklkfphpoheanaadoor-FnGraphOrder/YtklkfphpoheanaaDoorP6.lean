/- What a ring that is told has; what an order has. -/
import Derived.Test.YtklkfphpoheanaaDoorP5
import Derived.Test.YtklkfphpoheanaaDoorO2
namespace Go.Proofs.YtklkfphpoheanaaDoor
open Go.RowKit

theorem getD_app_lt (L M : List Int) (i : Nat) (h : i < L.length) : (L ++ M).getD i 0 = L.getD i 0 := by
  simp [List.getElem?_append, h]
theorem getD_app_ge (L M : List Int) (i : Nat) (h : L.length ≤ i) : (L ++ M).getD i 0 = M.getD (i - L.length) 0 := by
  simp [List.getElem?_append, show ¬ i < L.length from by omega]
theorem Way.steps {E : List (Int × Int)} {D : List Int} {a0 : Int} {W : List Int} {a : Int} (h : Way E D a0 W a) : ∀ i, i < W.length → NextE E (W.getD i 0) D ((W ++ [a]).getD (i + 1) 0) := by
  induction h with
  | start => intro i hi; simp at hi
  | @step W a r hw hn hx ih =>
    intro i hi
    simp at hi
    by_cases e : i = W.length
    · subst e
      rw [getD_app_ge W [a] W.length (Nat.le_refl _), getD_app_ge (W ++ [a]) [r] (W.length + 1) (by simp)]
      simpa using hx
    · have h1 := ih i (by omega)
      rw [getD_app_lt W [a] i (by omega), getD_app_lt (W ++ [a]) [r] (i + 1) (by simp; omega)]
      exact h1

/-- each needs the next, the last one the first -/
def Rings (E : List (Int × Int)) (R : List Int) : Prop := ∀ i, i < R.length → (R.getD i 0, R.getD ((i + 1) % R.length) 0) ∈ E

theorem rot_getD (R : List Int) (l i : Nat) (hl : l < R.length) (hi : i < R.length) : (R.drop l ++ R.take l).getD i 0 = R.getD ((i + l) % R.length) 0 := by
  by_cases h : i < R.length - l
  · rw [getD_app_lt _ _ _ (by simp; omega), Nat.mod_eq_of_lt (by omega)]
    simp [List.getElem?_drop, Nat.add_comm]
  · rw [getD_app_ge _ _ _ (by simp; omega)]
    have e : (i + l) % R.length = i + l - R.length := by
      rw [Nat.mod_eq_sub_mod (by omega), Nat.mod_eq_of_lt (by omega)]
    rw [e]
    simp only [List.length_drop]
    have e2 : i - (R.length - l) = i + l - R.length := by omega
    rw [e2]
    simp [show i + l - R.length < l from by omega]
theorem Rings.turn {E : List (Int × Int)} {R L : List Int} (h : Rings E R) (ht : TurnOf R L) : Rings E L := by
  obtain ⟨m, l', hm, _, hat, rfl⟩ := ht
  obtain ⟨l, e, hl, _, _⟩ := hat.yes hm
  obtain rfl : l' = l := by omega
  intro i hi
  have hlen : (R.drop l' ++ R.take l').length = R.length := by simp; omega
  rw [hlen] at hi ⊢
  rw [rot_getD R l' i hl hi, rot_getD R l' ((i + 1) % R.length) hl (Nat.mod_lt _ (by omega))]
  have h1 := h ((i + l') % R.length) (Nat.mod_lt _ (by omega))
  have e1 : ((i + 1) % R.length + l') % R.length = ((i + l') % R.length + 1) % R.length := by
    rw [Nat.mod_add_mod, Nat.mod_add_mod]
    congr 1
    omega
  rw [e1]
  exact h1
theorem TurnOf.nodup {R L : List Int} (h : TurnOf R L) (hR : R.Nodup) : L.Nodup := by
  obtain ⟨m, l, _, _, _, rfl⟩ := h
  have : (R.drop l ++ R.take l).Perm (R.take l ++ R.drop l) := List.perm_append_comm
  rw [this.nodup_iff, List.take_append_drop]
  exact hR
theorem CycSpec.rings {n : Int} {E : List (Int × Int)} {L : List Int} (h : CycSpec n E L) : Rings E L ∧ L.Nodup := by
  rcases h with ⟨_, rfl⟩ | ⟨⟨o0, o1, o2⟩, D, hc, hf, ⟨_, rfl⟩ | ⟨a0, W, a, f', h1, h2, h3, h4, h5⟩⟩
  · exact ⟨fun i hi => by simp at hi, by simp⟩
  · exact ⟨fun i hi => by simp at hi, by simp⟩
  · obtain ⟨m, rfl⟩ := Int.eq_ofNat_of_zero_le o0
    obtain ⟨f, e, hfl, hfa, _⟩ := h4.yes h3
    obtain rfl : f' = f := by omega
    have hst := h2.stuck (n := m) (by omega) o2 hf ⟨h1.1, h1.2.1, h1.2.2.1⟩
    have hsteps := h2.steps
    have hdl : (W.drop f').length = W.length - f' := by simp
    have hnd : (W.drop f').Nodup := h2.nodup.sublist (List.drop_sublist _ _)
    have hR : Rings E (W.drop f') := by
      intro i hi
      rw [hdl] at hi ⊢
      have e1 : (W.drop f').getD i 0 = W.getD (f' + i) 0 := by simp [List.getElem?_drop]
      have hnx := hsteps (f' + i) (by omega)
      have hy : (W.drop f').getD ((i + 1) % (W.length - f')) 0 = (W ++ [a]).getD (f' + i + 1) 0 := by
        by_cases hlast : i + 1 < W.length - f'
        · rw [Nat.mod_eq_of_lt hlast, getD_app_lt _ _ _ (by omega)]
          simp [List.getElem?_drop, Nat.add_assoc]
        · have e2 : i + 1 = W.length - f' := by omega
          rw [e2, Nat.mod_self, getD_app_ge _ _ _ (by omega)]
          rw [show f' + i + 1 - W.length = 0 from by omega, show (W.drop f').getD 0 0 = W.getD f' 0 from by simp [List.getElem?_drop], hfa]
          rfl
      rw [e1, hy]
      rcases hnx with ⟨e3, hno⟩ | ⟨_, hin, _⟩
      · exfalso
        have hx := hst.2 (W.getD (f' + i) 0) (mem_of_at (by omega) rfl)
        have := next_stuck (n := m) (by omega) o2 hf hx.1 hx.2.1 hx.2.2 (.inl ⟨e3, hno⟩)
        omega
      · exact hin
    exact ⟨hR.turn h5, h5.nodup hnd⟩

theorem nodup_take {L : List Int} (h : L.Nodup) (i : Nat) (hi : i < L.length) : ¬ L.getD i 0 ∈ L.take i := by
  intro hm
  have hs : L = L.take i ++ L.drop i := (List.take_append_drop i L).symm
  rw [hs, List.nodup_append] at h
  have hd : L.getD i 0 ∈ L.drop i := by
    rw [show L.getD i 0 = L[i] from by simp [hi]]
    exact List.mem_iff_getElem.2 ⟨0, by simp; omega, by simp⟩
  exact h.2.2 _ hm _ hd rfl

/-- when all can come there is no ring -/
theorem ord_cyc {n : Int} {E : List (Int × Int)} {L R : List Int} (h : OrdSpec n E L true) (hc : CycSpec n E R) : R = [] := by
  rcases h with ⟨_, _, h⟩ | ⟨h1, D, hD, hf, ⟨_, _, h⟩ | ⟨hn, rfl, _⟩⟩
  · cases h
  · cases h
  · rcases hc with ⟨h1', _⟩ | ⟨_, D', hD', hf', ⟨_, rfl⟩ | ⟨a0, _, _, _, hfs, _⟩⟩
    · exact absurd h1 h1'
    · rfl
    · obtain rfl := hD.one hD' hf hf'
      exfalso
      obtain ⟨m, rfl⟩ := Int.eq_ofNat_of_zero_le h1.1
      obtain ⟨q0, q1, q2, _⟩ := hfs
      obtain ⟨a, rfl⟩ := Int.eq_ofNat_of_zero_le q0
      have hnd : (L ++ [(a : Int)]).Nodup := by
        rw [List.nodup_append]
        refine ⟨hD.nodup, by simp, fun x hx y hy => ?_⟩
        simp at hy
        subst hy
        intro e
        subst e
        exact q2 hx
      have := nodup_le m (L ++ [(a : Int)]) hnd (fun x hx => by
        rcases List.mem_append.1 hx with hx | hx
        · exact hD.lt x hx
        · simp at hx
          subst hx
          simp at q1 ⊢
          omega)
      simp at this hn
      omega

theorem Chain.behind {A : List Nat} {n : Nat} {D : List Int} (h : Chain A n D) : ∀ i, i < D.length → ∀ o : Nat, D.getD i 0 = (o : Int) → ∀ j, j < 16 → (A.getD o 0).testBit j = true → (j : Int) ∈ D.take i := by
  induction h with
  | nil => intro i hi; simp at hi
  | @snoc D k _ hf _ ih =>
    intro i hi o ho j hj hb
    simp at hi
    by_cases e : i = D.length
    · subst e
      rw [getD_app_ge _ _ _ (Nat.le_refl _)] at ho
      simp at ho
      have hok : k = o := by omega
      subst hok
      rw [List.take_left]
      exact ((free_iff _ _ _ _).1 hf).2.2 j hj hb
    · rw [getD_app_lt _ _ _ (by omega)] at ho
      rw [List.take_append_of_le_length (by omega)]
      exact ih i (by omega) o ho j hj hb
theorem OrdSpec.behind {n : Int} {E : List (Int × Int)} {L : List Int} (h : OrdSpec n E L true) : (L.length : Int) = n ∧ ∀ i, i < L.length → ∀ e ∈ E, e.1 = L.getD i 0 → e.2 ∈ L.take i := by
  rcases h with ⟨_, _, h⟩ | ⟨h1, D, hD, hf, ⟨_, _, h⟩ | ⟨hn, rfl, _⟩⟩
  · cases h
  · cases h
  · obtain ⟨m, rfl⟩ := Int.eq_ofNat_of_zero_le h1.1
    have hle := hD.len
    simp at hle hn
    have hm16 : m ≤ 16 := by have := h1.2.1; omega
    refine ⟨by omega, fun i hi e he h1e => ?_⟩
    have hin := h1.2.2 e he
    obtain ⟨e1, e2⟩ := e
    unfold In16 at hin
    simp only at hin h1e ⊢
    obtain ⟨o, rfl⟩ := Int.eq_ofNat_of_zero_le (show 0 ≤ e1 from by omega)
    obtain ⟨j, rfl⟩ := Int.eq_ofNat_of_zero_le (show 0 ≤ e2 from by omega)
    exact hD.behind i hi o h1e.symm j (by omega) ((adj_iff m E h1.2.2 o j (by omega)).2 he)
theorem OrdSpec.none {n : Int} {E : List (Int × Int)} {L : List Int} (h : OrdSpec n E L false) : L = [] := by
  rcases h with ⟨_, h, _⟩ | ⟨_, D, _, _, ⟨_, h, _⟩ | ⟨_, _, h⟩⟩
  · exact h
  · exact h
  · cases h
end Go.Proofs.YtklkfphpoheanaaDoor
