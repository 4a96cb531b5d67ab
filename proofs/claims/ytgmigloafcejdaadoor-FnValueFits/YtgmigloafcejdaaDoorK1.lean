/- The program's nodes, and how they lie in memory. -/
import Derived.Test.YtgmigloafcejdaaDoorJ2
namespace Go.Proofs.YtgmigloafcejdaaDoor
open Go.RowKit

theorem lt_of_cellQ {w : World} {a : Addr} {v : Value} (h : w.cell? a = some v) : a.block < w.heap.size := by
  rcases Nat.lt_or_ge a.block w.heap.size with h1 | h1
  · exact h1
  · simp [World.cell?, Array.getElem?_eq_none h1] at h

/-- a list of texts lies in a block that is let -/
def LiesA (w : World) (A : Nat → Prop) (ao : Option Addr) (ss : List ByteArray) : Prop := ss.length = 0 ∨ ∃ ab o, ao = some ⟨ab, o, none⟩ ∧ A ab ∧ ∀ j, j < ss.length → w.cell? ⟨ab, o + j, none⟩ = some (.string (ss.getD j ByteArray.empty))
theorem Lies.inA {w : World} {base : Nat} {ao : Option Addr} {ss : List ByteArray} (h : Lies w base ao ss) {A : Nat → Prop} (hA : ∀ b, b < w.heap.size → A b) : LiesA w A ao ss := by
  rcases h with h | ⟨ab, o, e, _, h⟩
  · exact .inl h
  · rcases Nat.eq_zero_or_pos ss.length with h0 | h0
    · exact .inl h0
    · exact .inr ⟨ab, o, e, hA ab (lt_of_cellQ (h 0 h0)), h⟩
theorem LiesA.kept {w w' : World} {A : Nat → Prop} {ao : Option Addr} {ss : List ByteArray} {row : Option Nat} (h : LiesA w A ao ss) (hg : w.grownBy w' row) (hr : ∀ q, row = some q → ¬ A q) : LiesA w' A ao ss := by
  rcases h with h | ⟨ab, o, e, hA, h⟩
  · exact .inl h
  · exact .inr ⟨ab, o, e, hA, fun j hj => hg.cell (h j hj) (fun e => hr ab e.symm hA)⟩
theorem LiesA.wide {w : World} {A B : Nat → Prop} {ao : Option Addr} {ss : List ByteArray} (h : LiesA w A ao ss) (hAB : ∀ b, A b → B b) : LiesA w B ao ss := by
  rcases h with h | ⟨ab, o, e, hA, h⟩
  · exact .inl h
  · exact .inr ⟨ab, o, e, hAB ab hA, h⟩

/-- nodes lie one behind the other, in a block that is let -/
def KidsA (w : World) (A : Nat → Prop) (ao : Option Addr) (n : Nat) (xs : Nat → Value) : Prop := ∃ b, ao = some ⟨b, 0, none⟩ ∧ A b ∧ ∀ j, j < n → w.cell? ⟨b, j, none⟩ = some (xs j)
theorem KidsA.kept {w w' : World} {A : Nat → Prop} {ao : Option Addr} {n : Nat} {xs : Nat → Value} {row : Option Nat} (h : KidsA w A ao n xs) (hg : w.grownBy w' row) (hr : ∀ q, row = some q → ¬ A q) : KidsA w' A ao n xs := by
  obtain ⟨b, e, hA, h⟩ := h
  exact ⟨b, e, hA, fun j hj => hg.cell (h j hj) (fun e => hr b e.symm hA)⟩
theorem KidsA.wide {w : World} {A B : Nat → Prop} {ao : Option Addr} {n : Nat} {xs : Nat → Value} (h : KidsA w A ao n xs) (hAB : ∀ b, A b → B b) : KidsA w B ao n xs := by
  obtain ⟨b, e, hA, h⟩ := h
  exact ⟨b, e, hAB b hA, h⟩

/-- a node of a value; all that is behind it lies in blocks that are let -/
inductive NIn (w : World) (A : Nat → Prop) : VT → Value → Prop where
  | null {n : Int} {t : ByteArray} {ns : List ByteArray} {ks : List VT} : NIn w A (.node 1 n t ns ks) (.iface 95 (.agg #[]))
  | bool {n : Int} {t : ByteArray} {ns : List ByteArray} {ks : List VT} : NIn w A (.node 2 n t ns ks) (.iface 96 (.bool (n == 1)))
  | int {n : Int} {t : ByteArray} {ns : List ByteArray} {ks : List VT} : NIn w A (.node 3 n t ns ks) (.iface 98 (.int .i64 n))
  | text {n : Int} {t : ByteArray} {ns : List ByteArray} {ks : List VT} : NIn w A (.node 4 n t ns ks) (.iface 100 (.string t))
  | list {n : Int} {t : ByteArray} {ns : List ByteArray} {ks : List VT} {ao : Option Addr} {c : Nat} (xs : Nat → Value) (hp : KidsA w A ao ks.length xs) (hk : ∀ (j : Nat) (k : VT), ks[j]? = some k → NIn w A k (xs j)) (hc : ks.length ≤ c) : NIn w A (.node 5 n t ns ks) (.iface 80 (.agg #[.slice ao ks.length c]))
  | obj {n : Int} {t : ByteArray} {ns : List ByteArray} {ks : List VT} {ao an : Option Addr} {c cn : Nat} (xs : Nat → Value) (hp : KidsA w A ao ks.length xs) (hk : ∀ (j : Nat) (k : VT), ks[j]? = some k → NIn w A k (xs j)) (hc : ks.length ≤ c) (hn : LiesA w A an ns) (hcn : ns.length ≤ cn) : NIn w A (.node 6 n t ns ks) (.iface 83 (.agg #[.slice ao ks.length c, .slice an ns.length cn]))
  | unknown {n : Int} {t : ByteArray} {ns : List ByteArray} {ks : List VT} : NIn w A (.node 7 n t ns ks) (.iface 75 (.agg #[]))
theorem NIn.kept {w w' : World} {A : Nat → Prop} {T : VT} {v : Value} {row : Option Nat} (h : NIn w A T v) (hg : w.grownBy w' row) (hr : ∀ q, row = some q → ¬ A q) : NIn w' A T v := by
  induction h with
  | null => exact .null
  | bool => exact .bool
  | int => exact .int
  | text => exact .text
  | list xs hp _ hc ih => exact .list xs (hp.kept hg hr) ih hc
  | obj xs hp _ hc hn hcn ih => exact .obj xs (hp.kept hg hr) ih hc (hn.kept hg hr) hcn
  | unknown => exact .unknown
theorem NIn.wide {w : World} {A B : Nat → Prop} {T : VT} {v : Value} (h : NIn w A T v) (hAB : ∀ b, A b → B b) : NIn w B T v := by
  induction h with
  | null => exact .null
  | bool => exact .bool
  | int => exact .int
  | text => exact .text
  | list xs hp _ hc ih => exact .list xs (hp.wide hAB) ih hc
  | obj xs hp _ hc hn hcn ih => exact .obj xs (hp.wide hAB) ih hc (hn.wide hAB) hcn
  | unknown => exact .unknown
theorem NIn.face {w : World} {A : Nat → Prop} {T : VT} {v : Value} (h : NIn w A T v) : ∃ ty x, v = .iface ty x := by cases h <;> exact ⟨_, _, rfl⟩
theorem NIn.one {w : World} {A : Nat → Prop} {T : VT} {v : Value} (h : NIn w A T v) : v.oneCell' = true := by cases h <;> rfl

/-- an append of one to a row that has room -/
theorem wpList_append_in {P : Program} {w : World} {ops : Array Oper} {rest : List Oper} {o : Oper} {a : Act} {Q : Exit → Act → World → Prop} (hgd : o.guard = none) (s x : Operand) (t : TypeId)
    (ho : o.op = .call { callee := .builtin .append, args := #[s, x], argTypes := #[t, t] }) (e : TypeId) (i : TypeInfo) (h1 : P.underlying t = some (.slice e)) (h2 : P.info? e = some i) (h4 : i.size = 1)
    (g k cap : Nat) (L : List Value) (tt : TypeId) (hg : Blk w g tt L) (hs : a.eval s = .slice (some ⟨g, 0, none⟩) k cap) (ad : Addr) (c : Nat) (u : Value) (hx : a.eval x = .slice (some ad) 1 c) (hc : w.cell? (ad.add 0) = some u) (h1c : u.oneCell' = true) (hk : k + 1 ≤ cap) (hL : cap ≤ L.length)
    (h : ∀ w', Hid (Blk w' g tt (L.set k u)) → Hid (w.grownBy w' (some g)) → wpList P ops Q rest (a.put o.dst (.slice (some ⟨g, 0, none⟩) (k + 1) cap)) w') : wpList P ops Q (o :: rest) a w := by
  refine wpList_plain hgd fun K hK => ?_
  have hrun := run_append_room_cells (P := P) w t o.type e i h1 h2 g 0 k cap ad 1 c [u] (by simp [h4]) (fun j v hj => by
      cases j with
      | zero => simp at hj; subst hj; exact hc
      | succ j => simp at hj) (by simpa using h1c) hk
    (fun j hj => by
      have : j = 0 := by simpa using hj
      subst this
      rw [h4, hg.cell (v := L[k]'(by omega)) (by simp)]; rfl)
    (fun j hj => hg.frozen _)
  rw [h4] at hrun
  simp only [Nat.zero_add, Nat.mul_one] at hrun
  unfold Oper.wp
  simp [execOp, ho, resolve, invoke, builtin, hs, hx, hrun, Result.andThen]
  refine hK _ _ (h _ (Lib.hid (Blk.set hg k u)) (Lib.hid (grown_set (grown_refl w (some g)) k u)))

/-- what a check of a value answers: its node, and no error; or an error -/
def NodeR (W w' : World) (N bc l p : Nat) (T : VT) (e : Ending) : Prop :=
  ∃ nv ev, e = .returned (.tuple #[nv, ev]) ∧ W.grownBy w' (some bc) ∧
    ((ev = .nilIface ∧ (Parts T (l + 1) ∧ p + count T ≤ 16) ∧ Cnt w' bc l (p + count T) ∧ NIn w' (fun b => b < N ∨ W.heap.size ≤ b) T nv) ∨
     (Fault ev ∧ ¬ (Parts T (l + 1) ∧ p + count T ≤ 16) ∧ ∃ l' p', l ≤ l' ∧ l' ≤ l + 1 ∧ p' ≤ 17 ∧ Cnt w' bc l' p'))
/-- what a check of values answers: their nodes, and no error; or an error -/
def NodesR (W w' : World) (N bc l p : Nat) (ks : List VT) (e : Ending) : Prop :=
  ∃ sv ev, e = .returned (.tuple #[sv, ev]) ∧ W.grownBy w' (some bc) ∧
    ((ev = .nilIface ∧ (ks.length ≤ 5 ∧ PartsK ks (l + 1) ∧ p + countK ks ≤ 16) ∧ Cnt w' bc l (p + countK ks) ∧ ∃ ao c xs, sv = .slice ao ks.length c ∧ ks.length ≤ c ∧ KidsA w' (fun b => b < N ∨ W.heap.size ≤ b) ao ks.length xs ∧ ∀ (j : Nat) (k : VT), ks[j]? = some k → NIn w' (fun b => b < N ∨ W.heap.size ≤ b) k (xs j)) ∨
     (sv = .slice none 0 0 ∧ Fault ev ∧ ¬ (ks.length ≤ 5 ∧ PartsK ks (l + 1) ∧ p + countK ks ≤ 16) ∧ ∃ l' p', l ≤ l' ∧ l' ≤ l + 1 ∧ p' ≤ 17 ∧ Cnt w' bc l' p'))
end Go.Proofs.YtgmigloafcejdaaDoor
