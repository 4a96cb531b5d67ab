/- Rows that a call owns, told by their cells (a row made by a conversion bears a mark behind its end; one made by make or append bears none). No program is named here. -/
import Derived.Test.YtdelijobaebfnaaDoorH0
import Derived.Lib.ConvBytes
import Derived.ArgAppend
import Derived.Deep.MidRow
import Derived.Lib.Hide
namespace Go.Proofs.YtdelijobaebfnaaDoor
open Go.RowKit

/-- the slice v holds the cells xs, in a block of the call's own (from base on), all of whose cells may be written; or it is nil and holds nothing -/
def Row (w : World) (base : Nat) (v : Value) (xs : List Value) : Prop :=
  (v = .slice none 0 0 ∧ xs = []) ∨
  ∃ g cap, v = .slice (some ⟨g, 0, none⟩) xs.length cap ∧ base ≤ g ∧ g < w.heap.size ∧ xs.length ≤ cap ∧ (∀ j, j < xs.length → w.cell? ⟨g, j, none⟩ = xs[j]?) ∧ (∀ j, j < cap → (w.cell? ⟨g, j, none⟩).isSome = true ∧ w.frozen? ⟨g, j, none⟩ = false)

theorem Row.nil (w : World) (base : Nat) : Row w base (.slice none 0 0) [] := .inl ⟨rfl, rfl⟩
theorem Row.lt {w : World} {base : Nat} {v : Value} {xs : List Value} (h : Row w base v xs) : ∀ k, v.ownBlock = some k → base ≤ k ∧ k < w.heap.size := by
  intro k hk
  rcases h with ⟨rfl, _⟩ | ⟨g, cap, rfl, hb, hl, _⟩
  · simp [Value.ownBlock] at hk
  · simp [Value.ownBlock] at hk; subst hk; exact ⟨hb, hl⟩
theorem Row.kept {w w' : World} {base : Nat} {v : Value} {xs : List Value} {row : Option Nat} (h : Row w base v xs) (hg : w.grownBy w' row) (hne : ∀ k, v.ownBlock = some k → some k ≠ row) : Row w' base v xs := by
  rcases h with h | ⟨g, cap, rfl, hb, hl, hn, hc, hf⟩
  · exact .inl h
  · have hbl := hg.block g hl (hne g rfl)
    refine .inr ⟨g, cap, rfl, hb, Nat.lt_of_lt_of_le hl hg.size, hn, fun j hj => ?_, fun j hj => ?_⟩
    · rw [World.cell?_of_block (w := w) (a := ⟨g, j, none⟩) hbl]; exact hc j hj
    · rw [World.cell?_of_block (w := w) (a := ⟨g, j, none⟩) hbl, World.frozen?_of_block (w := w) (a := ⟨g, j, none⟩) hbl]; exact hf j hj
theorem Row.alloc {w : World} {base : Nat} {v : Value} {xs : List Value} (h : Row w base v xs) (o : Obj) : Row (w.alloc o) base v xs := h.kept (World.grownBy_alloc w o none) (by simp)
theorem Row.drew {w : World} {base : Nat} {v : Value} {xs : List Value} (h : Row w base v xs) : Row w.drew base v xs := h
theorem Row.drewN {w : World} {base : Nat} {v : Value} {xs : List Value} (h : Row w base v xs) (n : Nat) : Row (w.drewN n) base v xs := h
theorem Row.base {w : World} {base b' : Nat} {v : Value} {xs : List Value} (h : Row w base v xs) (hb : b' ≤ base) : Row w b' v xs := by
  rcases h with h | ⟨g, cap, rfl, hb2, r⟩
  · exact .inl h
  · exact .inr ⟨g, cap, rfl, by omega, r⟩
theorem Row.of_owns {w : World} {base : Nat} {e : TypeId} {v : Value} {n : Nat} {xs : List Value} (h : w.ownsRow base e 1 v n xs) : Row w base v xs := by
  obtain ⟨hl, h | ⟨g, cap, cur, rfl, hb, hh, hn, _, hs, ht⟩⟩ := h
  · obtain ⟨rfl, rfl⟩ := h
    exact .inl ⟨rfl, List.eq_nil_of_length_eq_zero (by simpa using hl)⟩
  · obtain rfl : n = xs.length := by omega
    refine .inr ⟨g, cap, rfl, hb, lt_of_block hh, hn, fun j hj => ?_, fun j hj => ?_⟩
    · rw [cell_of_row w g j cur e (0, 0) hh, ← ht, List.getElem?_take, if_pos (by omega)]; simp
    · rw [cell_of_row w g j cur e (0, 0) hh]
      have : j < cur.size := by omega
      exact ⟨by simp [this], by simp [World.frozen?, hh]⟩
/-- the row of a conversion -/
theorem Row.bytes (w : World) (e : TypeId) (s : ByteArray) : Row (Lib.bytesWorld w e s) w.heap.size (.slice (some ⟨w.heap.size, 0, none⟩) s.size (grownCap w s.size 0 e)) (s.data.toList.map fun b => Value.int .u8 (b.toNat : Int)) := by
  have hsz : (Lib.bytesCells w e s).size = grownCap w s.size 0 e := by
    have := grownCap_ge w s.size 0 e
    have hds : s.data.size = s.size := rfl
    simp [Lib.bytesCells, hds]; omega
  refine .inr ⟨w.heap.size, grownCap w s.size 0 e, by simp, Nat.le_refl _, by rw [Lib.bytesWorld_size]; omega, by simpa using grownCap_ge w s.size 0 e, fun j hj => ?_, fun j hj => ?_⟩
  · have hj' : j < s.size := by simpa using hj
    have hj2 : j < s.data.size := hj'
    rw [Lib.bytesWorld_cell w e s j hj']
    simp only [List.getD_eq_getElem?_getD, List.getElem?_map, Array.getElem?_toList, Array.getElem?_eq_getElem hj2, Option.map_some, Option.getD_some]
  · have hb := Lib.bytesWorld_at_new w e s
    refine ⟨?_, ?_⟩
    · rw [cell_of_row _ w.heap.size j _ e _ hb]
      have : j < (Lib.bytesCells w e s).size := by omega
      simp [this]
    · simp [World.frozen?, hb]; omega
theorem Row.made (w : World) (e : TypeId) (C : Array Value) (cap : Nat) (hs : C.size = cap) : Row (w.alloc (.cells C e)) w.heap.size (.slice (some ⟨w.heap.size, 0, none⟩) 0 cap) [] := by
  have hh : (w.alloc (.cells C e)).heap[w.heap.size]? = some (.cells C e (0, 0)) := heap_alloc_new w _
  refine .inr ⟨w.heap.size, cap, rfl, Nat.le_refl _, by simp, Nat.zero_le _, fun j hj => absurd hj (Nat.not_lt_zero _), fun j hj => ?_⟩
  rw [cell_of_row _ w.heap.size j C e (0, 0) hh]
  have : j < C.size := by omega
  exact ⟨by simp [this], frozen_of_row _ w.heap.size j C e hh⟩
theorem Row.lit (w : World) (e : TypeId) (L : List Value) : Row (w.alloc (.cells L.toArray e)) w.heap.size (.slice (some ⟨w.heap.size, 0, none⟩) L.length L.length) L := by
  have hh : Blk (w.alloc (.cells L.toArray e)) w.heap.size e L := Blk.new w e L
  refine .inr ⟨w.heap.size, L.length, rfl, Nat.le_refl _, by simp, Nat.le_refl _, fun j hj => ?_, fun j hj => ⟨?_, hh.frozen j⟩⟩
  · rw [List.getElem?_eq_getElem hj]; exact hh.cell (List.getElem?_eq_getElem hj)
  · rw [hh.cell (List.getElem?_eq_getElem hj)]; rfl

/-- what an append does to a row -/
theorem Row.append {P : Program} (w : World) (t ty e : TypeId) (i : TypeInfo) (z : Value) (bytes : Nat) (h1 : P.underlying t = some (.slice e)) (h2 : P.info? e = some i) (h3 : i.zero = some z) (h4 : i.size = 1) (h5 : i.bytes = bytes) (h6 : z.cells.size = 1)
    (base : Nat) (v : Value) (xs : List Value) (hrow : Row w base v xs) (ad : Addr) (m c : Nat) (news : List Value) (hn : news.length = m) (hc : ∀ j u, news[j]? = some u → w.cell? (ad.add j) = some u) (h1c : ∀ u ∈ news, u.oneCell' = true)
    (b1 : xs.length + m ≤ maxLen) (b2 : (xs.length + m) * bytes ≤ 140737488355328) (hb : base ≤ w.heap.size) :
    ∃ v' w', (Builtin.append_ #[t, t] ty #[v, .slice (some ad) m c]).run P w = .ok v' w' ∧ Row w' base v' (xs ++ news) ∧ w.grownBy w' v.ownBlock := by
  rcases hrow with ⟨rfl, rfl⟩ | ⟨g, cap, rfl, hbg, hl, hcap, hcell, hfree⟩
  · obtain ⟨v', w', hrun, r1, r2, _⟩ := run_append_own (P := P) w w.heap.size t ty e i z 1 bytes h1 h2 h3 h4 h5 h6 (by decide) (.slice none 0 0) 0 [] (World.ownsRow_nil w _ e 1) ad m c news (by simpa using hn) hc h1c (by simpa using b1) (by simpa using b2) (Nat.le_refl _)
    exact ⟨v', w', hrun, (Row.of_owns r1).base hb, r2⟩
  · by_cases hr : xs.length + m ≤ cap
    · have hrun := run_append_room_cells (P := P) w t ty e i h1 h2 g 0 xs.length cap ad m c news (by rw [h4]; omega) hc h1c hr
        (fun j hj => by rw [h4]; simpa using (hfree (xs.length + j) (by omega)).1) (fun j hj => by rw [h4]; simpa using (hfree (xs.length + j) (by omega)).2)
      rw [h4] at hrun
      simp only [Nat.zero_add, Nat.mul_one] at hrun
      refine ⟨_, _, hrun, .inr ⟨g, cap, by simp [hn], hbg, ?_, by simp; omega, fun j hj => ?_, fun j hj => ?_⟩, ?_⟩
      · have := (grown_setCells0 w g xs.length news).size
        omega
      · simp only [List.length_append] at hj
        by_cases hj1 : j < xs.length
        · rw [World.cell?_setCells_out g news xs.length w ⟨g, j, none⟩ (fun _ _ => Or.inl hj1), hcell j hj1, List.getElem?_append_left hj1]
        · have := World.cell?_setCells_in g news xs.length w (fun q hq => (hfree (xs.length + q) (by omega)).1) (j - xs.length) (by omega)
          rw [show xs.length + (j - xs.length) = j from by omega] at this
          rw [this, List.getElem?_append_right (by omega), List.getElem?_eq_getElem]
      · rw [World.frozen?_setCells]
        exact ⟨World.isSome_setCells g news xs.length w _ (hfree j hj).1, (hfree j hj).2⟩
      · exact grown_setCells0 w g xs.length news
    · obtain ⟨v', w', hrun, r1, r2⟩ := run_append_arg_grows (P := P) w t ty e i z 1 bytes h1 h2 h3 h4 h5 h6 (by decide) ⟨g, 0, none⟩ xs.length cap xs (by simp) (fun j u hj => by
        rw [Addr.add_mid, Nat.zero_add, hcell j (List.getElem?_eq_some_iff.1 hj).1, hj]) ad m c news (by simpa using hn) hc (by omega) b1 b2
      exact ⟨v', w', hrun, (Row.of_owns r1).base hb, grown_widen r2⟩

theorem wpList_append_row {P : Program} {w : World} {ops : Array Oper} {rest : List Oper} {o : Oper} {a : Act} {Q : Exit → Act → World → Prop} (hgd : o.guard = none) (s x : Operand) (t : TypeId)
    (ho : o.op = .call { callee := .builtin .append, args := #[s, x], argTypes := #[t, t] }) (e : TypeId) (i : TypeInfo) (z : Value) (bytes : Nat) (h1 : P.underlying t = some (.slice e)) (h2 : P.info? e = some i) (h3 : i.zero = some z) (h4 : i.size = 1) (h5 : i.bytes = bytes) (h6 : z.cells.size = 1)
    (base : Nat) (v : Value) (xs : List Value) (hs : a.eval s = v) (hrow : Row w base v xs) (ad : Addr) (m c : Nat) (news : List Value) (hx : a.eval x = .slice (some ad) m c) (hn : news.length = m) (hc : ∀ j u, news[j]? = some u → w.cell? (ad.add j) = some u) (h1c : ∀ u ∈ news, u.oneCell' = true)
    (b1 : xs.length + m ≤ maxLen) (b2 : (xs.length + m) * bytes ≤ 140737488355328) (hb : base ≤ w.heap.size)
    (h : ∀ v' w', Hid (Row w' base v' (xs ++ news)) → Hid (w.grownBy w' v.ownBlock) → wpList P ops Q rest (a.put o.dst v') w') : wpList P ops Q (o :: rest) a w := by
  refine wpList_plain hgd fun K hK => ?_
  obtain ⟨v', w', hrun, r1, r2⟩ := Row.append (P := P) w t o.type e i z bytes h1 h2 h3 h4 h5 h6 base v xs hrow ad m c news hn hc h1c b1 b2 hb
  unfold Oper.wp
  simp [execOp, ho, resolve, invoke, builtin, hs, hx, hrun, Result.andThen]
  exact hK _ _ (h v' w' r1 r2)

theorem step_append_row {P : Program} {w : World} {ops : Array Oper} {o : Oper} {a : Act} {K : Act → World → Prop} {Q : Exit → Act → World → Prop} {E : Prop} (hgd : o.guard = none) (s x : Operand) (t : TypeId)
    (ho : o.op = .call { callee := .builtin .append, args := #[s, x], argTypes := #[t, t] }) (e : TypeId) (i : TypeInfo) (z : Value) (bytes : Nat) (h1 : P.underlying t = some (.slice e)) (h2 : P.info? e = some i) (h3 : i.zero = some z) (h4 : i.size = 1) (h5 : i.bytes = bytes) (h6 : z.cells.size = 1)
    (base : Nat) (v : Value) (xs : List Value) (hs : a.eval s = v) (hrow : Row w base v xs) (ad : Addr) (m c : Nat) (news : List Value) (hx : a.eval x = .slice (some ad) m c) (hn : news.length = m) (hc : ∀ j u, news[j]? = some u → w.cell? (ad.add j) = some u) (h1c : ∀ u ∈ news, u.oneCell' = true)
    (b1 : xs.length + m ≤ maxLen) (b2 : (xs.length + m) * bytes ≤ 140737488355328) (hb : base ≤ w.heap.size)
    (h : ∀ v' w', Hid (Row w' base v' (xs ++ news)) → Hid (w.grownBy w' v.ownBlock) → K (a.put o.dst v') w') :
    if Region.wanted o (yielded ops a.tmps) = true then Oper.wp P o a w K Q else E := by
  have hw : Region.wanted o (yielded ops a.tmps) = true := by simp [Region.wanted, hgd]
  rw [if_pos hw]
  obtain ⟨v', w', hrun, r1, r2⟩ := Row.append (P := P) w t o.type e i z bytes h1 h2 h3 h4 h5 h6 base v xs hrow ad m c news hn hc h1c b1 b2 hb
  unfold Oper.wp
  simp [execOp, ho, resolve, invoke, builtin, hs, hx, hrun, Result.andThen]
  exact h v' w' r1 r2

theorem grown_undrew {w w' : World} {row : Option Nat} (h : w.drew.grownBy w' row) : w.grownBy w' row := ⟨h.os, h.tape, h.output, h.size, h.block⟩
/-- what lies below the call's own blocks is as it was behind an append -/
theorem row_keep {w w1 : World} {base : Nat} {v : Value} {xs : List Value} {o : Obj} (hrow : Row w base v xs) (hg : (w.alloc o).drew.grownBy w1 v.ownBlock) {a : Addr} {u : Value} (ha : a.block < base) (h : w.cell? a = some u) : w1.cell? a = some u := by
  refine ((World.grownBy_alloc w o none).cell h (by simp) |> fun h2 => (grown_undrew hg).cell h2 ?_)
  intro e
  have := (hrow.lt a.block e.symm).1
  omega

/-- the world under a letter: of it is known what is said -/
theorem wp_letter {P : Program} {c : Code} {Q : Exit → Act → World → Prop} {a : Act} {w : World} (S : World → Prop) (h0 : S w) (h : ∀ wx, S wx → c.wp P Q a wx) : c.wp P Q a w := h w h0

end Go.Proofs.YtdelijobaebfnaaDoor
