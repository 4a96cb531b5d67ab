/- A tape opened, by the document. -/
import Derived.Test.YtgidhfcnjboieaaDoorO2
import Derived.Test.YtgidhfcnjboieaaDoorP4
namespace Go.Proofs.YtgidhfcnjboieaaDoor
open Go.RowKit

theorem Row.none0 {w : World} {base g : Nat} (h1 : base ≤ g) (h2 : g < w.heap.size) : Row w base (.slice (some ⟨g, 0, none⟩) 0 0) (strs []) :=
  .inr ⟨g, 0, rfl, h1, h2, Nat.le_refl _, fun _ hj => absurd hj (Nat.not_lt_zero _), fun _ hj => absurd hj (Nat.not_lt_zero _)⟩

/-- two rows that are added to, one of them a field; a third one that stays; and two blocks beside them -/
def SO (w : World) (BX BR X : Nat) (xi : List Value) (v3 : Value) (A C : List ByteArray) (v v2 : Value) (V : World) : Prop :=
  (Row V w.heap.size v (strs A) ∧ Row V w.heap.size v2 (strs C) ∧ Row V w.heap.size v3 (strs [])) ∧
  (Blk V X 25 [v2, v3] ∧ Blk V BX 25 xi ∧ Blk V BR 25 [Value.slice none 0 0, .slice none 0 0]) ∧
  ((∀ q, v.ownBlock = some q → q ≠ X ∧ q ≠ BX ∧ q ≠ BR ∧ v2.ownBlock ≠ some q ∧ v3.ownBlock ≠ some q) ∧ (∀ q, v2.ownBlock = some q → q ≠ X ∧ q ≠ BX ∧ q ≠ BR ∧ v3.ownBlock ≠ some q) ∧ (∀ q, v3.ownBlock = some q → q ≠ X ∧ q ≠ BX ∧ q ≠ BR)) ∧
  (w.grownBy V none ∧ w.heap.size ≤ X ∧ X ≠ BX ∧ X ≠ BR)
theorem SO.grown {w V V' : World} {BX BR X : Nat} {xi : List Value} {v3 v v2 : Value} {A C : List ByteArray} (h : SO w BX BR X xi v3 A C v v2 V) (hg : V.grownBy V' none) : SO w BX BR X xi v3 A C v v2 V' :=
  ⟨⟨h.1.1.kept hg (by simp), h.1.2.1.kept hg (by simp), h.1.2.2.kept hg (by simp)⟩, ⟨h.2.1.1.kept hg (by simp), h.2.1.2.1.kept hg (by simp), h.2.1.2.2.kept hg (by simp)⟩, h.2.2.1, ⟨grown_trans h.2.2.2.1 hg, h.2.2.2.2⟩⟩
theorem SO.drew {w V : World} {BX BR X : Nat} {xi : List Value} {v3 v v2 : Value} {A C : List ByteArray} (h : SO w BX BR X xi v3 A C v v2 V) : SO w BX BR X xi v3 A C v v2 V.drew := h.grown (grown_drew (grown_refl V none))
theorem SO.alloc {w V : World} {BX BR X : Nat} {xi : List Value} {v3 v v2 : Value} {A C : List ByteArray} (h : SO w BX BR X xi v3 A C v v2 V) (o : Obj) : SO w BX BR X xi v3 A C v v2 (V.alloc o) := h.grown (World.grownBy_alloc V o none)
theorem SO.add {w V V' : World} {BX BR X : Nat} {xi : List Value} {v3 v v2 v' : Value} {A A' C : List ByteArray} (h : SO w BX BR X xi v3 A C v v2 V) (hr : Row V' w.heap.size v' (strs A')) (hg : V.grownBy V' v.ownBlock) (ho : ∀ q, v'.ownBlock = some q → v.ownBlock = some q ∨ V.heap.size ≤ q) : SO w BX BR X xi v3 A' C v' v2 V' := by
  obtain ⟨⟨h1, h2, h3⟩, ⟨b1, b2, b3⟩, ⟨d1, d2, d3⟩, ⟨g, gx⟩⟩ := h
  have l1 := b1.lt
  have l2 := b2.lt
  have l3 := b3.lt
  refine ⟨⟨hr, h2.kept hg (fun q hq e => (d1 q e.symm).2.2.2.1 hq), h3.kept hg (fun q hq e => (d1 q e.symm).2.2.2.2 hq)⟩, ⟨b1.kept hg (fun e => (d1 X e.symm).1 rfl), b2.kept hg (fun e => (d1 BX e.symm).2.1 rfl), b3.kept hg (fun e => (d1 BR e.symm).2.2.1 rfl)⟩, ⟨fun q hq => ?_, d2, d3⟩, ⟨grown_own g hg (fun q hq => (h1.lt q hq).1), gx⟩⟩
  rcases ho q hq with e | e
  · exact d1 q e
  · exact ⟨by omega, by omega, by omega, fun e2 => by have := (h2.lt q e2).2; omega, fun e2 => by have := (h3.lt q e2).2; omega⟩
theorem SO.add2 {w V V' : World} {BX BR X : Nat} {xi : List Value} {v3 v v2 v' : Value} {A C C' : List ByteArray} (h : SO w BX BR X xi v3 A C v v2 V) (hr : Row V' w.heap.size v' (strs C')) (hg : V.grownBy V' v2.ownBlock) (ho : ∀ q, v'.ownBlock = some q → v2.ownBlock = some q ∨ V.heap.size ≤ q) :
    Blk V' X 25 [v2, v3] ∧ Blk V' BX 25 xi ∧ SO w BX BR X xi v3 A C' v v' (V'.setCell ⟨X, 0, none⟩ v') := by
  obtain ⟨⟨h1, h2, h3⟩, ⟨b1, b2, b3⟩, ⟨d1, d2, d3⟩, ⟨g, gx⟩⟩ := h
  have l1 := b1.lt
  have l2 := b2.lt
  have l3 := b3.lt
  have b1' := b1.kept hg (fun e => (d2 X e.symm).1 rfl)
  have b2' := b2.kept hg (fun e => (d2 BX e.symm).2.1 rfl)
  have b3' := b3.kept hg (fun e => (d2 BR e.symm).2.2.1 rfl)
  have hs := grown_set (grown_refl V' (some X)) 0 v'
  have n' : ∀ q, v'.ownBlock = some q → q ≠ X ∧ q ≠ BX ∧ q ≠ BR ∧ v3.ownBlock ≠ some q := fun q hq => by
    rcases ho q hq with e | e
    · exact d2 q e
    · exact ⟨by omega, by omega, by omega, fun e2 => by have := (h3.lt q e2).2; omega⟩
  refine ⟨b1', b2', ⟨(h1.kept hg (fun q hq e => (d1 q hq).2.2.2.1 e.symm)).kept hs (fun q hq e => (d1 q hq).1 (Option.some.inj e)), hr.kept hs (fun q hq e => (n' q hq).1 (Option.some.inj e)), (h3.kept hg (fun q hq e => (d2 q e.symm).2.2.2 hq)).kept hs (fun q hq e => (d3 q hq).1 (Option.some.inj e))⟩, ⟨b1'.set 0 v', b2'.kept hs (fun e => gx.2.1 (Option.some.inj e).symm), b3'.kept hs (fun e => gx.2.2 (Option.some.inj e).symm)⟩, ⟨fun q hq => ⟨(d1 q hq).1, (d1 q hq).2.1, (d1 q hq).2.2.1, fun e => ?_, (d1 q hq).2.2.2.2⟩, n', d3⟩, ⟨grown_into (grown_own g hg (fun q hq => (h2.lt q hq).1)) hs gx.1, gx⟩⟩
  rcases ho q e with e2 | e2
  · exact (d1 q hq).2.2.2.1 e2
  · have := (h1.lt q hq).2
    omega

/-- how many pieces are read -/
def openN (ss : List ByteArray) : Nat := min 220 (ss.takeWhile wholeB).length
theorem takeWhile_all (ss : List ByteArray) : ∀ k, k ≤ ss.length → (∀ j (h : j < ss.length), j < k → wholeB ss[j] = true) → k ≤ (ss.takeWhile wholeB).length := by
  induction ss with
  | nil => intro k hk _; simpa using hk
  | cons a l ih =>
    intro k hk h
    rcases k with _ | k
    · exact Nat.zero_le _
    · have ha : wholeB a = true := h 0 (by simp) (by omega)
      rw [List.takeWhile_cons, if_pos ha]
      have := ih k (by simpa using hk) (fun j hj hjk => by have := h (j + 1) (by simp; omega) (by omega); simpa using this)
      simp only [List.length_cons]
      omega
theorem takeWhile_stop (ss : List ByteArray) : ∀ k (hk : k < ss.length), wholeB ss[k] = false → (ss.takeWhile wholeB).length ≤ k := by
  induction ss with
  | nil => intro k hk; exact absurd hk (Nat.not_lt_zero _)
  | cons a l ih =>
    intro k hk h
    by_cases ha : wholeB a = true
    · rcases k with _ | k
      · rw [List.getElem_cons_zero, ha] at h; exact absurd h (by simp)
      · rw [List.takeWhile_cons, if_pos ha]
        have := ih k (by simpa using hk) (by simpa using h)
        simp only [List.length_cons]
        omega
    · rw [List.takeWhile_cons, if_neg ha]
      exact Nat.zero_le _
theorem openN_stop (ss : List ByteArray) (k : Nat) (hk : k < ss.length) (h2 : k ≤ 220) (h : ∀ j (h : j < ss.length), j < k → wholeB ss[j] = true) (hs : wholeB ss[k] = false) : openN ss = k := by
  have h1 := takeWhile_all ss k (by omega) h
  have h3 := takeWhile_stop ss k hk hs
  unfold openN
  omega
theorem openN_end (ss : List ByteArray) (k : Nat) (hk : k ≤ ss.length) (h2 : k ≤ 220) (h : ∀ j (h : j < ss.length), j < k → wholeB ss[j] = true) (he : k = ss.length ∨ k = 220) : openN ss = k := by
  have h1 := takeWhile_all ss k hk h
  have h3 : (ss.takeWhile wholeB).length ≤ ss.length := (List.takeWhile_sublist _).length_le
  unfold openN
  omega
/-- what a tape opened is -/
def Opened (w : World) (ss : List ByteArray) (x : Value) (w' : World) : Prop :=
  ∃ v v2 v3, x = .tuple #[v, .agg #[v2, v3]] ∧ Row w' w.heap.size v (strs ((ss.take (openN ss)).map recT)) ∧ Row w' w.heap.size v2 (strs (ss.take (openN ss))) ∧ Row w' w.heap.size v3 (strs []) ∧ (∀ q, v.ownBlock = some q → v2.ownBlock ≠ some q ∧ v3.ownBlock ≠ some q) ∧ (∀ q, v2.ownBlock = some q → v3.ownBlock ≠ some q) ∧ w.grownBy w' none
theorem take_add (ss : List ByteArray) (k : Nat) (p : ByteArray) (hk : k < ss.length) (hp : ss[k] = p) : strs (ss.take (k + 1)) = strs (ss.take k) ++ strs [p] ∧ strs ((ss.take (k + 1)).map recT) = strs ((ss.take k).map recT) ++ strs [recT p] := by
  rw [List.take_succ_eq_append_getElem hk, hp]
  simp [strs]

theorem fin_open {w : World} {BX BR X : Nat} {xi : List Value} {v3 v v2 : Value} {ss : List ByteArray} {W1 W2 : World} {k : Nat} (hk : openN ss = k) (h : SO w BX BR X xi v3 ((ss.take k).map recT) (ss.take k) v v2 W1) (hb : w.heap.size ≤ BR) (hg : W1.grownBy W2 (some BR)) : Row W2 w.heap.size v (strs ((ss.take (openN ss)).map recT)) ∧ Row W2 w.heap.size v2 (strs (ss.take (openN ss))) ∧ Row W2 w.heap.size v3 (strs []) ∧ (∀ q, v.ownBlock = some q → v2.ownBlock ≠ some q ∧ v3.ownBlock ≠ some q) ∧ (∀ q, v2.ownBlock = some q → v3.ownBlock ≠ some q) ∧ w.grownBy W2 none := by
  obtain ⟨⟨r1, r2, r3⟩, ⟨bx, -, br⟩, ⟨q1, q2, q3⟩, ⟨gr, -⟩⟩ := h
  rw [hk]
  exact ⟨r1.kept hg (fun q hq e => (q1 q hq).2.2.1 (Option.some.inj e)), r2.kept hg (fun q hq e => (q2 q hq).2.2.1 (Option.some.inj e)), r3.kept hg (fun q hq e => (q3 q hq).2.2 (Option.some.inj e)), fun q hq => ⟨(q1 q hq).2.2.2.1, (q1 q hq).2.2.2.2⟩, fun q hq => (q2 q hq).2.2.2, grown_into gr hg hb⟩
end Go.Proofs.YtgidhfcnjboieaaDoor
