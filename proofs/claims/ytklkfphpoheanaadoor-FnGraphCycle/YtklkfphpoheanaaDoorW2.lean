/- Rows of needs that a call owns. -/
import Derived.Test.YtklkfphpoheanaaDoorT2
import Derived.Laws.AppendOwn
namespace Go.Proofs.YtklkfphpoheanaaDoor
open Go.RowKit

def NR (w : World) (base : Nat) (v : Value) (E : List (Int × Int)) : Prop := w.ownsRow base 32 2 v E.length (flat E)
theorem NR.lt {w : World} {base : Nat} {v : Value} {E : List (Int × Int)} (h : NR w base v E) : ∀ q, v.ownBlock = some q → base ≤ q ∧ q < w.heap.size := by
  intro q hq
  obtain ⟨_, ⟨rfl, _⟩ | ⟨g, cap, cur, rfl, hb, hh, _⟩⟩ := h
  · cases hq
  · have : g = q := by simpa [Value.ownBlock] using hq
    subst this
    exact ⟨hb, lt_of_block hh⟩
theorem NR.kept {w w' : World} {base : Nat} {v : Value} {E : List (Int × Int)} {row : Option Nat} (h : NR w base v E) (hg : w.grownBy w' row) (hne : ∀ k, v.ownBlock = some k → some k ≠ row) : NR w' base v E := by
  obtain ⟨hl, h | ⟨g, cap, cur, rfl, hb, hh, r⟩⟩ := h
  · exact ⟨hl, .inl h⟩
  · exact ⟨hl, .inr ⟨g, cap, cur, rfl, hb, by rw [hg.block g (lt_of_block hh) (hne g rfl)]; exact hh, r⟩⟩
theorem NR.nlies {w : World} {base : Nat} {v : Value} {E : List (Int × Int)} (h : NR w base v E) : ∃ ao cap, v = .slice ao E.length cap ∧ NLies w ao E := by
  obtain ⟨hl, ⟨rfl, h0⟩ | ⟨g, cap, cur, rfl, hb, hh, hn, hc, hs, ht⟩⟩ := h
  · exact ⟨none, 0, by rw [h0], .inl h0⟩
  · refine ⟨_, cap, rfl, .inr ⟨g, 0, rfl, fun j hj => ?_⟩⟩
    obtain ⟨f1, f2⟩ := flat_get E j hj
    rw [← ht, List.getElem?_take, if_pos (by omega)] at f1
    rw [← ht, List.getElem?_take, if_pos (by omega)] at f2
    rw [Nat.zero_add, Nat.mul_comm]
    exact ⟨by rw [cell_of_row w g _ cur 32 (0, 0) hh]; simpa using f1, by rw [cell_of_row w g _ cur 32 (0, 0) hh]; simpa using f2⟩
theorem NR.empty (w : World) : NR (w.alloc (.cells #[] 32)) w.heap.size (.slice (some ⟨w.heap.size, 0, none⟩) 0 0) [] :=
  ⟨rfl, .inr ⟨w.heap.size, 0, #[], rfl, Nat.le_refl _, heap_alloc_new w _, Nat.le_refl _, Nat.zero_le _, rfl, rfl⟩⟩
theorem NR.base {w : World} {base b' : Nat} {v : Value} {E : List (Int × Int)} (h : NR w base v E) (hb : b' ≤ base) : NR w b' v E := by
  obtain ⟨hl, h | ⟨g, cap, cur, rfl, hb2, r⟩⟩ := h
  · exact ⟨hl, .inl h⟩
  · exact ⟨hl, .inr ⟨g, cap, cur, rfl, by omega, r⟩⟩
theorem flat_app (E F : List (Int × Int)) : flat (E ++ F) = flat E ++ flat F := by simp [flat]
theorem wpList_append_need {w : World} {ops : Array Oper} {rest : List Oper} {o : Oper} {a : Act} {Q : Exit → Act → World → Prop} (hgd : o.guard = none) (s x : Operand)
    (ho : o.op = .call { callee := .builtin .append, args := #[s, x], argTypes := #[23, 23] })
    (base : Nat) (v : Value) (E : List (Int × Int)) (f g : Int) (hs : a.eval s = v) (hrow : NR w base v E) (b : Nat) (hx : a.eval x = .slice (some ⟨b, 0, none⟩) 1 1) (hc : Blk w b 32 [.int .i64 f, .int .i64 g]) (hl : E.length ≤ 1000) (hb : base ≤ w.heap.size)
    (h : ∀ v' w', Hid (NR w' base v' (E ++ [(f, g)])) → Hid (w.grownBy w' v.ownBlock) → wpList Tryd.prog ops Q rest (a.put o.dst v') w') : wpList Tryd.prog ops Q (o :: rest) a w := by
  refine wpList_plain hgd fun K hK => ?_
  obtain ⟨i9, hi9, hz0, hz1, hz2⟩ := info_parts info32
  obtain ⟨v', w', hrun, r1, r2, _⟩ := run_append_own (P := Tryd.prog) w base 23 o.type 32 i9 (.agg #[.int .i64 0, .int .i64 0]) 2 16 Tryd.underlying23 hi9 hz0 hz1 hz2 rfl (by decide) v E.length (flat E) hrow ⟨b, 0, none⟩ 1 1 [.int .i64 f, .int .i64 g] rfl (fun j u hj => by rw [Addr.add_mid, Nat.zero_add]; exact hc.cell hj) (by intro u hu; simp at hu; rcases hu with rfl | rfl <;> rfl) (by unfold maxLen; omega) (by omega) hb
  unfold Oper.wp
  simp [execOp, ho, resolve, invoke, builtin, hs, hx, hrun, Result.andThen]
  refine hK _ _ (h v' w' ?_ r2)
  show w'.ownsRow base 32 2 v' (E ++ [(f, g)]).length (flat (E ++ [(f, g)]))
  rw [flat_app, List.length_append]
  exact r1

end Go.Proofs.YtklkfphpoheanaaDoor
