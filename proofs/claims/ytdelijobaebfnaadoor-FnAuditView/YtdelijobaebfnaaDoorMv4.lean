/- Appends that say whose block the row is behind them; frames of two blocks. No program is named here. -/
import Derived.Test.YtdelijobaebfnaaDoorMv2
namespace Go.Proofs.YtdelijobaebfnaaDoor
open Go.RowKit

/-- what an append does to a row -/
theorem Row.append2 {P : Program} (w : World) (t ty e : TypeId) (i : TypeInfo) (z : Value) (bytes : Nat) (h1 : P.underlying t = some (.slice e)) (h2 : P.info? e = some i) (h3 : i.zero = some z) (h4 : i.size = 1) (h5 : i.bytes = bytes) (h6 : z.cells.size = 1)
    (base : Nat) (v : Value) (xs : List Value) (hrow : Row w base v xs) (ad : Addr) (m c : Nat) (news : List Value) (hn : news.length = m) (hc : ∀ j u, news[j]? = some u → w.cell? (ad.add j) = some u) (h1c : ∀ u ∈ news, u.oneCell' = true)
    (b1 : xs.length + m ≤ maxLen) (b2 : (xs.length + m) * bytes ≤ 140737488355328) (hb : base ≤ w.heap.size) :
    ∃ v' w', (Builtin.append_ #[t, t] ty #[v, .slice (some ad) m c]).run P w = .ok v' w' ∧ Row w' base v' (xs ++ news) ∧ w.grownBy w' v.ownBlock ∧ (∀ q, v'.ownBlock = some q → v.ownBlock = some q ∨ w.heap.size ≤ q) := by
  rcases hrow with ⟨rfl, rfl⟩ | ⟨g, cap, rfl, hbg, hl, hcap, hcell, hfree⟩
  · obtain ⟨v', w', hrun, r1, r2, _⟩ := run_append_own (P := P) w w.heap.size t ty e i z 1 bytes h1 h2 h3 h4 h5 h6 (by decide) (.slice none 0 0) 0 [] (World.ownsRow_nil w _ e 1) ad m c news (by simpa using hn) hc h1c (by simpa using b1) (by simpa using b2) (Nat.le_refl _)
    exact ⟨v', w', hrun, (Row.of_owns r1).base hb, r2, fun q hq => .inr ((Row.of_owns r1).lt q hq).1⟩
  · by_cases hr : xs.length + m ≤ cap
    · have hrun := run_append_room_cells (P := P) w t ty e i h1 h2 g 0 xs.length cap ad m c news (by rw [h4]; omega) hc h1c hr
        (fun j hj => by rw [h4]; simpa using (hfree (xs.length + j) (by omega)).1) (fun j hj => by rw [h4]; simpa using (hfree (xs.length + j) (by omega)).2)
      rw [h4] at hrun
      simp only [Nat.zero_add, Nat.mul_one] at hrun
      refine ⟨_, _, hrun, .inr ⟨g, cap, by simp [hn], hbg, ?_, by simp; omega, fun j hj => ?_, fun j hj => ?_⟩, ?_, fun q hq => .inl hq⟩
      · have := (grown_setCells0 w g xs.length news).size
        omega
      · simp only [List.length_append] at hj
        by_cases hj1 : j < xs.length
        · rw [World.cell?_setCells_out g news xs.length w ⟨g, j, none⟩ (fun _ _ => Or.inl hj1), hcell j hj1, List.getElem?_append_left hj1]
        · have := World.cell?_setCells_in g news xs.length w (fun q hq => (hfree (xs.length + q) (by omega)).1) (j - xs.length) (by omega)
          rw [show xs.length + (j - xs.length) = j from by omega] at this
          rw [this, List.getElem?_append_right (by omega), List.getElem?_eq_getElem]
      · rw [World.frozen?_setCells]
        exact ⟨World.isSome_setCells g news xs.length w _ (hfree j hj).1, (hfree j hj).2⟩
      · exact grown_setCells0 w g xs.length news
    · obtain ⟨v', w', hrun, r1, r2⟩ := run_append_arg_grows (P := P) w t ty e i z 1 bytes h1 h2 h3 h4 h5 h6 (by decide) ⟨g, 0, none⟩ xs.length cap xs (by simp) (fun j u hj => by
        rw [Addr.add_mid, Nat.zero_add, hcell j (List.getElem?_eq_some_iff.1 hj).1, hj]) ad m c news (by simpa using hn) hc (by omega) b1 b2
      exact ⟨v', w', hrun, (Row.of_owns r1).base hb, grown_widen r2, fun q hq => .inr ((Row.of_owns r1).lt q hq).1⟩

theorem wpList_append_row2 {P : Program} {w : World} {ops : Array Oper} {rest : List Oper} {o : Oper} {a : Act} {Q : Exit → Act → World → Prop} (hgd : o.guard = none) (s x : Operand) (t : TypeId)
    (ho : o.op = .call { callee := .builtin .append, args := #[s, x], argTypes := #[t, t] }) (e : TypeId) (i : TypeInfo) (z : Value) (bytes : Nat) (h1 : P.underlying t = some (.slice e)) (h2 : P.info? e = some i) (h3 : i.zero = some z) (h4 : i.size = 1) (h5 : i.bytes = bytes) (h6 : z.cells.size = 1)
    (base : Nat) (v : Value) (xs : List Value) (hs : a.eval s = v) (hrow : Row w base v xs) (ad : Addr) (m c : Nat) (news : List Value) (hx : a.eval x = .slice (some ad) m c) (hn : news.length = m) (hc : ∀ j u, news[j]? = some u → w.cell? (ad.add j) = some u) (h1c : ∀ u ∈ news, u.oneCell' = true)
    (b1 : xs.length + m ≤ maxLen) (b2 : (xs.length + m) * bytes ≤ 140737488355328) (hb : base ≤ w.heap.size)
    (h : ∀ v' w', Hid (Row w' base v' (xs ++ news)) → Hid (w.grownBy w' v.ownBlock) → Hid (∀ q, v'.ownBlock = some q → v.ownBlock = some q ∨ w.heap.size ≤ q) → wpList P ops Q rest (a.put o.dst v') w') : wpList P ops Q (o :: rest) a w := by
  refine wpList_plain hgd fun K hK => ?_
  obtain ⟨v', w', hrun, r1, r2, r3⟩ := Row.append2 (P := P) w t o.type e i z bytes h1 h2 h3 h4 h5 h6 base v xs hrow ad m c news hn hc h1c b1 b2 hb
  unfold Oper.wp
  simp [execOp, ho, resolve, invoke, builtin, hs, hx, hrun, Result.andThen]
  exact hK _ _ (h v' w' r1 r2 r3)

theorem step_append_row2 {P : Program} {w : World} {ops : Array Oper} {o : Oper} {a : Act} {K : Act → World → Prop} {Q : Exit → Act → World → Prop} {E : Prop} (hgd : o.guard = none) (s x : Operand) (t : TypeId)
    (ho : o.op = .call { callee := .builtin .append, args := #[s, x], argTypes := #[t, t] }) (e : TypeId) (i : TypeInfo) (z : Value) (bytes : Nat) (h1 : P.underlying t = some (.slice e)) (h2 : P.info? e = some i) (h3 : i.zero = some z) (h4 : i.size = 1) (h5 : i.bytes = bytes) (h6 : z.cells.size = 1)
    (base : Nat) (v : Value) (xs : List Value) (hs : a.eval s = v) (hrow : Row w base v xs) (ad : Addr) (m c : Nat) (news : List Value) (hx : a.eval x = .slice (some ad) m c) (hn : news.length = m) (hc : ∀ j u, news[j]? = some u → w.cell? (ad.add j) = some u) (h1c : ∀ u ∈ news, u.oneCell' = true)
    (b1 : xs.length + m ≤ maxLen) (b2 : (xs.length + m) * bytes ≤ 140737488355328) (hb : base ≤ w.heap.size)
    (h : ∀ v' w', Hid (Row w' base v' (xs ++ news)) → Hid (w.grownBy w' v.ownBlock) → Hid (∀ q, v'.ownBlock = some q → v.ownBlock = some q ∨ w.heap.size ≤ q) → K (a.put o.dst v') w') :
    if Region.wanted o (yielded ops a.tmps) = true then Oper.wp P o a w K Q else E := by
  have hw : Region.wanted o (yielded ops a.tmps) = true := by simp [Region.wanted, hgd]
  rw [if_pos hw]
  obtain ⟨v', w', hrun, r1, r2, r3⟩ := Row.append2 (P := P) w t o.type e i z bytes h1 h2 h3 h4 h5 h6 base v xs hrow ad m c news hn hc h1c b1 b2 hb
  unfold Oper.wp
  simp [execOp, ho, resolve, invoke, builtin, hs, hx, hrun, Result.andThen]
  exact h v' w' r1 r2 r3


/-- all blocks but those of X are as they were -/
structure Fr (w w' : World) (X : Nat → Prop) : Prop where
  os : w'.os = w.os
  tape : w'.tape = w.tape
  output : w'.output = w.output
  size : w.heap.size ≤ w'.heap.size
  block : ∀ i, i < w.heap.size → ¬ X i → w'.heap[i]? = w.heap[i]?
theorem Fr.of_grown {w w' : World} {r : Option Nat} {X : Nat → Prop} (h : w.grownBy w' r) (hr : ∀ q, r = some q → X q) : Fr w w' X :=
  ⟨h.os, h.tape, h.output, h.size, fun i hi hx => h.block i hi (fun e => hx (hr i e.symm))⟩
theorem Fr.trans {a b c : World} {X : Nat → Prop} (h : Fr a b X) (k : Fr b c X) : Fr a c X :=
  ⟨k.os.trans h.os, k.tape.trans h.tape, k.output.trans h.output, Nat.le_trans h.size k.size, fun i hi hx => (k.block i (Nat.lt_of_lt_of_le hi h.size) hx).trans (h.block i hi hx)⟩
theorem Fr.wide {a b : World} {X Y : Nat → Prop} (h : Fr a b X) (hxy : ∀ i, i < a.heap.size → X i → Y i) : Fr a b Y :=
  ⟨h.os, h.tape, h.output, h.size, fun i hi hy => h.block i hi (fun hx => hy (hxy i hi hx))⟩
theorem Fr.blk {w w' : World} {X : Nat → Prop} {b : Nat} {t : TypeId} {L : List Value} (h : Fr w w' X) (hb : Blk w b t L) (hx : ¬ X b) : Blk w' b t L := by
  unfold Blk at *; rw [h.block b (lt_of_block hb) hx]; exact hb
theorem Fr.row {w w' : World} {X : Nat → Prop} {base : Nat} {v : Value} {xs : List Value} (h : Fr w w' X) (hr : Row w base v xs) (hx : ∀ q, v.ownBlock = some q → ¬ X q) : Row w' base v xs := by
  rcases hr with hr | ⟨g, cap, rfl, hb, hl, hn, hc, hf⟩
  · exact .inl hr
  · have hbl := h.block g hl (hx g rfl)
    refine .inr ⟨g, cap, rfl, hb, Nat.lt_of_lt_of_le hl h.size, hn, fun j hj => ?_, fun j hj => ?_⟩
    · rw [World.cell?_of_block (w := w) (a := ⟨g, j, none⟩) hbl]; exact hc j hj
    · rw [World.cell?_of_block (w := w) (a := ⟨g, j, none⟩) hbl, World.frozen?_of_block (w := w) (a := ⟨g, j, none⟩) hbl]; exact hf j hj
/-- what is changed is newer than the beginning -/
theorem Fr.grown {a w w' : World} {X : Nat → Prop} {r : Option Nat} (h : a.grownBy w r) (k : Fr w w' X) (hx : ∀ i, i < a.heap.size → ¬ X i) : a.grownBy w' r :=
  ⟨k.os.trans h.os, k.tape.trans h.tape, k.output.trans h.output, Nat.le_trans h.size k.size, fun i hi hr => (k.block i (Nat.lt_of_lt_of_le hi h.size) (hx i hi)).trans (h.block i hi hr)⟩

end Go.Proofs.YtdelijobaebfnaaDoor
namespace Go.Proofs.YtdelijobaebfnaaDoor
open Go.RowKit

/-- only one operation may come up -/
theorem wpAny_one {P : Program} {md : Region.Mode} {ops : Array Oper} {Q : Exit → Act → World → Prop} {fuel i : Nat} {o : Oper} {listed : Array Bool} {a : Act} {w : World} (hr : Region.ready md ops listed = [i]) (ho : ops[i]? = some o)
    (h : if Region.wanted o (yielded ops a.tmps) = true then Oper.wp P o a w (wpAny P md ops Q fuel (listed.setIfInBounds i true)) Q else wpAny P md ops Q fuel (listed.setIfInBounds i true) (a.put o.dst undef) w) : wpAny P md ops Q (fuel + 1) listed a w := by
  refine wpAny_all hr (by simp) ?_
  intro j hj
  obtain rfl : j = i := by simpa using hj
  unfold wpOp
  simp only [ho]
  split
  · rename_i hw
    rw [if_pos hw] at h
    exact .inl h
  · rename_i hw
    rw [if_neg hw] at h
    exact h

/-- an operation whose guard does not let it -/
theorem wpStill_skip {P : Program} {ops : Array Oper} {w : World} {Q : Act → Prop} {a : Act} {o : Oper} {rest : List Oper} (h : Region.wanted o (yielded ops a.tmps) = false) (hK : wpStill P ops w Q rest (a.put o.dst undef)) : wpStill P ops w Q (o :: rest) a :=
  wpStill_step fun K hK' => by
    rw [if_neg (by rw [h]; decide)]
    exact hK' _ hK
end Go.Proofs.YtdelijobaebfnaaDoor
