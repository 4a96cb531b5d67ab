/- Rows of structs of two cells that are added to. No program is named here. -/
import Derived.Test.YtdelijobaebfnaaDoorMv4
import Derived.Laws.AppendOwn
namespace Go.Proofs.YtdelijobaebfnaaDoor
open Go.RowKit

/-- the slice v holds n values, of the cells xs, in a block of the call's own (from base on), all of whose cells may be written; or it is nil and holds nothing -/
def RowT (w : World) (base : Nat) (v : Value) (n : Nat) (xs : List Value) : Prop :=
  xs.length = n * 2 ∧ ((v = .slice none 0 0 ∧ n = 0) ∨
  ∃ g cap, v = .slice (some ⟨g, 0, none⟩) n cap ∧ base ≤ g ∧ g < w.heap.size ∧ n ≤ cap ∧ (∀ j, j < n * 2 → w.cell? ⟨g, j, none⟩ = xs[j]?) ∧ (∀ j, j < cap * 2 → (w.cell? ⟨g, j, none⟩).isSome = true ∧ w.frozen? ⟨g, j, none⟩ = false))
theorem RowT.nil (w : World) (base : Nat) : RowT w base (.slice none 0 0) 0 [] := ⟨rfl, .inl ⟨rfl, rfl⟩⟩
theorem RowT.lt {w : World} {base : Nat} {v : Value} {n : Nat} {xs : List Value} (h : RowT w base v n xs) : ∀ k, v.ownBlock = some k → base ≤ k ∧ k < w.heap.size := by
  intro k hk
  rcases h.2 with ⟨rfl, _⟩ | ⟨g, cap, rfl, hb, hl, _⟩
  · simp [Value.ownBlock] at hk
  · simp [Value.ownBlock] at hk; subst hk; exact ⟨hb, hl⟩
theorem RowT.kept {w w' : World} {base : Nat} {v : Value} {n : Nat} {xs : List Value} {row : Option Nat} (h : RowT w base v n xs) (hg : w.grownBy w' row) (hne : ∀ k, v.ownBlock = some k → some k ≠ row) : RowT w' base v n xs := by
  refine ⟨h.1, ?_⟩
  rcases h.2 with h | ⟨g, cap, rfl, hb, hl, hn, hc, hf⟩
  · exact .inl h
  · have hbl := hg.block g hl (hne g rfl)
    refine .inr ⟨g, cap, rfl, hb, Nat.lt_of_lt_of_le hl hg.size, hn, fun j hj => ?_, fun j hj => ?_⟩
    · rw [World.cell?_of_block (w := w) (a := ⟨g, j, none⟩) hbl]; exact hc j hj
    · rw [World.cell?_of_block (w := w) (a := ⟨g, j, none⟩) hbl, World.frozen?_of_block (w := w) (a := ⟨g, j, none⟩) hbl]; exact hf j hj
theorem RowT.base {w : World} {base b' : Nat} {v : Value} {n : Nat} {xs : List Value} (h : RowT w base v n xs) (hb : b' ≤ base) : RowT w b' v n xs := by
  refine ⟨h.1, ?_⟩
  rcases h.2 with h | ⟨g, cap, rfl, hb2, r⟩
  · exact .inl h
  · exact .inr ⟨g, cap, rfl, by omega, r⟩
theorem RowT.of_owns {w : World} {base : Nat} {e : TypeId} {v : Value} {n : Nat} {xs : List Value} (h : w.ownsRow base e 2 v n xs) : RowT w base v n xs := by
  obtain ⟨hl, h | ⟨g, cap, cur, rfl, hb, hh, hn, _, hs, ht⟩⟩ := h
  · exact ⟨hl, .inl h⟩
  · refine ⟨hl, .inr ⟨g, cap, rfl, hb, lt_of_block hh, hn, fun j hj => ?_, fun j hj => ?_⟩⟩
    · rw [cell_of_row w g j cur e (0, 0) hh, ← ht, List.getElem?_take, if_pos (by omega)]; simp
    · rw [cell_of_row w g j cur e (0, 0) hh]
      have : j < cur.size := by omega
      exact ⟨by simp [this], by simp [World.frozen?, hh]⟩
theorem RowT.lit (w : World) (e : TypeId) (n : Nat) (L : List Value) (hL : L.length = n * 2) : RowT (w.alloc (.cells L.toArray e)) w.heap.size (.slice (some ⟨w.heap.size, 0, none⟩) n n) n L := by
  have hh : Blk (w.alloc (.cells L.toArray e)) w.heap.size e L := Blk.new w e L
  refine ⟨hL, .inr ⟨w.heap.size, n, rfl, Nat.le_refl _, by simp, Nat.le_refl _, fun j hj => ?_, fun j hj => ⟨?_, hh.frozen j⟩⟩⟩
  · rw [List.getElem?_eq_getElem (by omega)]; exact hh.cell (List.getElem?_eq_getElem (by omega))
  · rw [hh.cell (List.getElem?_eq_getElem (by omega))]; rfl

/-- what an append does to a row of values -/
theorem RowT.append {P : Program} (w : World) (t ty e : TypeId) (i : TypeInfo) (z : Value) (bytes : Nat) (h1 : P.underlying t = some (.slice e)) (h2 : P.info? e = some i) (h3 : i.zero = some z) (h4 : i.size = 2) (h5 : i.bytes = bytes) (h6 : z.cells.size = 2)
    (base : Nat) (v : Value) (n : Nat) (xs : List Value) (hrow : RowT w base v n xs) (ad : Addr) (m c : Nat) (news : List Value) (hn : news.length = m * 2) (hc : ∀ j u, news[j]? = some u → w.cell? (ad.add j) = some u) (h1c : ∀ u ∈ news, u.oneCell' = true)
    (b1 : n + m ≤ maxLen) (b2 : (n + m) * bytes ≤ 140737488355328) (hb : base ≤ w.heap.size) :
    ∃ v' w', (Builtin.append_ #[t, t] ty #[v, .slice (some ad) m c]).run P w = .ok v' w' ∧ RowT w' base v' (n + m) (xs ++ news) ∧ w.grownBy w' v.ownBlock ∧ (∀ q, v'.ownBlock = some q → v.ownBlock = some q ∨ w.heap.size ≤ q) := by
  obtain ⟨hxl, ⟨rfl, rfl⟩ | ⟨g, cap, rfl, hbg, hl, hcap, hcell, hfree⟩⟩ := hrow
  · have : xs = [] := List.eq_nil_of_length_eq_zero (by omega)
    subst this
    obtain ⟨v', w', hrun, r1, r2, _⟩ := run_append_own (P := P) w w.heap.size t ty e i z 2 bytes h1 h2 h3 h4 h5 h6 (by decide) (.slice none 0 0) 0 [] (World.ownsRow_nil w _ e 2) ad m c news hn hc h1c b1 b2 (Nat.le_refl _)
    exact ⟨v', w', hrun, (RowT.of_owns r1).base hb, r2, fun q hq => .inr ((RowT.of_owns r1).lt q hq).1⟩
  · by_cases hr : n + m ≤ cap
    · have hrun := run_append_room_cells (P := P) w t ty e i h1 h2 g 0 n cap ad m c news (by rw [h4]; omega) hc h1c hr
        (fun j hj => by rw [h4]; simpa using (hfree (n * 2 + j) (by omega)).1) (fun j hj => by rw [h4]; simpa using (hfree (n * 2 + j) (by omega)).2)
      rw [h4] at hrun
      simp only [Nat.zero_add] at hrun
      refine ⟨_, _, hrun, ⟨by simp [hxl, hn]; omega, .inr ⟨g, cap, rfl, hbg, ?_, hr, fun j hj => ?_, fun j hj => ?_⟩⟩, ?_, fun q hq => .inl hq⟩
      · have := (grown_setCells0 w g (n * 2) news).size
        omega
      · by_cases hj1 : j < n * 2
        · rw [World.cell?_setCells_out g news (n * 2) w ⟨g, j, none⟩ (fun _ _ => Or.inl hj1), hcell j hj1, List.getElem?_append_left (by omega)]
        · have := World.cell?_setCells_in g news (n * 2) w (fun q hq => (hfree (n * 2 + q) (by omega)).1) (j - n * 2) (by omega)
          rw [show n * 2 + (j - n * 2) = j from by omega] at this
          rw [this, List.getElem?_append_right (by omega), show j - xs.length = j - n * 2 from by omega, List.getElem?_eq_getElem]
      · rw [World.frozen?_setCells]
        exact ⟨World.isSome_setCells g news (n * 2) w _ (hfree j hj).1, (hfree j hj).2⟩
      · exact grown_setCells0 w g (n * 2) news
    · obtain ⟨v', w', hrun, r1, r2⟩ := run_append_arg_grows (P := P) w t ty e i z 2 bytes h1 h2 h3 h4 h5 h6 (by decide) ⟨g, 0, none⟩ n cap xs hxl (fun j u hj => by
        rw [Addr.add_mid, Nat.zero_add, hcell j (by have := (List.getElem?_eq_some_iff.1 hj).1; omega), hj]) ad m c news hn hc (by omega) b1 b2
      exact ⟨v', w', hrun, (RowT.of_owns r1).base hb, grown_widen r2, fun q hq => .inr ((RowT.of_owns r1).lt q hq).1⟩

theorem wpList_append_rowT {P : Program} {w : World} {ops : Array Oper} {rest : List Oper} {o : Oper} {a : Act} {Q : Exit → Act → World → Prop} (hgd : o.guard = none) (s x : Operand) (t : TypeId)
    (ho : o.op = .call { callee := .builtin .append, args := #[s, x], argTypes := #[t, t] }) (e : TypeId) (i : TypeInfo) (z : Value) (bytes : Nat) (h1 : P.underlying t = some (.slice e)) (h2 : P.info? e = some i) (h3 : i.zero = some z) (h4 : i.size = 2) (h5 : i.bytes = bytes) (h6 : z.cells.size = 2)
    (base : Nat) (v : Value) (n : Nat) (xs : List Value) (hs : a.eval s = v) (hrow : RowT w base v n xs) (ad : Addr) (m c : Nat) (news : List Value) (hx : a.eval x = .slice (some ad) m c) (hn : news.length = m * 2) (hc : ∀ j u, news[j]? = some u → w.cell? (ad.add j) = some u) (h1c : ∀ u ∈ news, u.oneCell' = true)
    (b1 : n + m ≤ maxLen) (b2 : (n + m) * bytes ≤ 140737488355328) (hb : base ≤ w.heap.size)
    (h : ∀ v' w', Hid (RowT w' base v' (n + m) (xs ++ news)) → Hid (w.grownBy w' v.ownBlock) → Hid (∀ q, v'.ownBlock = some q → v.ownBlock = some q ∨ w.heap.size ≤ q) → wpList P ops Q rest (a.put o.dst v') w') : wpList P ops Q (o :: rest) a w := by
  refine wpList_plain hgd fun K hK => ?_
  obtain ⟨v', w', hrun, r1, r2, r3⟩ := RowT.append (P := P) w t o.type e i z bytes h1 h2 h3 h4 h5 h6 base v n xs hrow ad m c news hn hc h1c b1 b2 hb
  unfold Oper.wp
  simp [execOp, ho, resolve, invoke, builtin, hs, hx, hrun, Result.andThen]
  exact hK _ _ (h v' w' r1 r2 r3)

theorem step_append_rowT {P : Program} {w : World} {ops : Array Oper} {o : Oper} {a : Act} {K : Act → World → Prop} {Q : Exit → Act → World → Prop} {E : Prop} (hgd : o.guard = none) (s x : Operand) (t : TypeId)
    (ho : o.op = .call { callee := .builtin .append, args := #[s, x], argTypes := #[t, t] }) (e : TypeId) (i : TypeInfo) (z : Value) (bytes : Nat) (h1 : P.underlying t = some (.slice e)) (h2 : P.info? e = some i) (h3 : i.zero = some z) (h4 : i.size = 2) (h5 : i.bytes = bytes) (h6 : z.cells.size = 2)
    (base : Nat) (v : Value) (n : Nat) (xs : List Value) (hs : a.eval s = v) (hrow : RowT w base v n xs) (ad : Addr) (m c : Nat) (news : List Value) (hx : a.eval x = .slice (some ad) m c) (hn : news.length = m * 2) (hc : ∀ j u, news[j]? = some u → w.cell? (ad.add j) = some u) (h1c : ∀ u ∈ news, u.oneCell' = true)
    (b1 : n + m ≤ maxLen) (b2 : (n + m) * bytes ≤ 140737488355328) (hb : base ≤ w.heap.size)
    (h : ∀ v' w', Hid (RowT w' base v' (n + m) (xs ++ news)) → Hid (w.grownBy w' v.ownBlock) → Hid (∀ q, v'.ownBlock = some q → v.ownBlock = some q ∨ w.heap.size ≤ q) → K (a.put o.dst v') w') :
    if Region.wanted o (yielded ops a.tmps) = true then Oper.wp P o a w K Q else E := by
  have hw : Region.wanted o (yielded ops a.tmps) = true := by simp [Region.wanted, hgd]
  rw [if_pos hw]
  obtain ⟨v', w', hrun, r1, r2, r3⟩ := RowT.append (P := P) w t o.type e i z bytes h1 h2 h3 h4 h5 h6 base v n xs hrow ad m c news hn hc h1c b1 b2 hb
  unfold Oper.wp
  simp [execOp, ho, resolve, invoke, builtin, hs, hx, hrun, Result.andThen]
  exact h v' w' r1 r2 r3

end Go.Proofs.YtdelijobaebfnaaDoor
