/- An append of a slice that may be nil. No program is named here. -/
import Derived.Test.YtgmigloafcejdaaGreatDoorZ4
namespace Go.Proofs.YtgmigloafcejdaaGreatDoor
open Go.RowKit

theorem run_append_nothing {P : Program} (w : World) (t ty e : TypeId) (i : TypeInfo) (h1 : P.underlying t = some (.slice e)) (h2 : P.info? e = some i) (b : Addr) (n cap c : Nat) (hcap : n ≤ cap) :
    (Builtin.append_ #[t, t] ty #[.slice (some b) n cap, .slice none 0 c]).run P w = .ok (.slice (some b) n cap) w := by
  simp [Builtin.append_, run_underlying h1, sizeOf, typeInfo, h2, Builtin.lenOf, Builtin.firstCells, hcap, storeCells]

/-- what an append does to a row, where what is added may be nil -/
theorem Row.append3 {P : Program} (w : World) (t ty e : TypeId) (i : TypeInfo) (z : Value) (bytes : Nat) (h1 : P.underlying t = some (.slice e)) (h2 : P.info? e = some i) (h3 : i.zero = some z) (h4 : i.size = 1) (h5 : i.bytes = bytes) (h6 : z.cells.size = 1)
    (base g n cap : Nat) (xs : List Value) (hrow : Row w base (.slice (some ⟨g, 0, none⟩) n cap) xs) (ao : Option Addr) (m c : Nat) (news : List Value) (hn : news.length = m) (hc : m = 0 ∨ ∃ ad, ao = some ad ∧ ∀ j u, news[j]? = some u → w.cell? (ad.add j) = some u) (h1c : ∀ u ∈ news, u.oneCell' = true)
    (b1 : xs.length + m ≤ maxLen) (b2 : (xs.length + m) * bytes ≤ 140737488355328) (hb : base ≤ w.heap.size) :
    ∃ v' w', (Builtin.append_ #[t, t] ty #[.slice (some ⟨g, 0, none⟩) n cap, .slice ao m c]).run P w = .ok v' w' ∧ Row w' base v' (xs ++ news) ∧ w.grownBy w' (some g) ∧ (∀ q, v'.ownBlock = some q → q = g ∨ w.heap.size ≤ q) := by
  cases ao with
  | none =>
    have hm : m = 0 := by
      rcases hc with h | ⟨ad, h, _⟩
      · exact h
      · cases h
    subst hm
    have hnil : news = [] := List.eq_nil_of_length_eq_zero hn
    subst hnil
    have hcap : n ≤ cap := by
      rcases hrow with ⟨h, _⟩ | ⟨g', cap', h, _, _, h', _⟩
      · cases h
      · cases h; exact h'
    refine ⟨_, _, run_append_nothing w t ty e i h1 h2 ⟨g, 0, none⟩ n cap c hcap, by simpa using hrow, grown_refl _ _, fun q hq => .inl ?_⟩
    simp [Value.ownBlock] at hq
    exact hq.symm
  | some ad =>
    obtain ⟨v', w', hrun, r1, r2, r3⟩ := Row.append2 (P := P) w t ty e i z bytes h1 h2 h3 h4 h5 h6 base _ xs hrow ad m c news hn (by
      rcases hc with h | ⟨ad', h, hcc⟩
      · intro j u hj
        have : news = [] := List.eq_nil_of_length_eq_zero (by omega)
        subst this
        simp at hj
      · cases h
        exact hcc) h1c b1 b2 hb
    refine ⟨v', w', hrun, r1, r2, fun q hq => ?_⟩
    rcases r3 q hq with h | h
    · simp [Value.ownBlock] at h
      exact .inl h.symm
    · exact .inr h

theorem step_append_row3 {P : Program} {w : World} {ops : Array Oper} {o : Oper} {a : Act} {K : Act → World → Prop} {Q : Exit → Act → World → Prop} {E : Prop} (hgd : o.guard = none) (s x : Operand) (t : TypeId)
    (ho : o.op = .call { callee := .builtin .append, args := #[s, x], argTypes := #[t, t] }) (e : TypeId) (i : TypeInfo) (z : Value) (bytes : Nat) (h1 : P.underlying t = some (.slice e)) (h2 : P.info? e = some i) (h3 : i.zero = some z) (h4 : i.size = 1) (h5 : i.bytes = bytes) (h6 : z.cells.size = 1)
    (base g n cap : Nat) (xs : List Value) (hs : a.eval s = .slice (some ⟨g, 0, none⟩) n cap) (hrow : Row w base (.slice (some ⟨g, 0, none⟩) n cap) xs) (ao : Option Addr) (m c : Nat) (news : List Value) (hx : a.eval x = .slice ao m c) (hn : news.length = m) (hc : m = 0 ∨ ∃ ad, ao = some ad ∧ ∀ j u, news[j]? = some u → w.cell? (ad.add j) = some u) (h1c : ∀ u ∈ news, u.oneCell' = true)
    (b1 : xs.length + m ≤ maxLen) (b2 : (xs.length + m) * bytes ≤ 140737488355328) (hb : base ≤ w.heap.size)
    (h : ∀ v' w', Hid (Row w' base v' (xs ++ news)) → Hid (w.grownBy w' (some g)) → Hid (∀ q, v'.ownBlock = some q → q = g ∨ w.heap.size ≤ q) → K (a.put o.dst v') w') :
    if Region.wanted o (yielded ops a.tmps) = true then Oper.wp P o a w K Q else E := by
  have hw : Region.wanted o (yielded ops a.tmps) = true := by simp [Region.wanted, hgd]
  rw [if_pos hw]
  obtain ⟨v', w', hrun, r1, r2, r3⟩ := Row.append3 (P := P) w t o.type e i z bytes h1 h2 h3 h4 h5 h6 base g n cap xs hrow ao m c news hn hc h1c b1 b2 hb
  unfold Oper.wp
  simp [execOp, ho, resolve, invoke, builtin, hs, hx, hrun, Result.andThen]
  exact h v' w' r1 r2 r3

end Go.Proofs.YtgmigloafcejdaaGreatDoor
