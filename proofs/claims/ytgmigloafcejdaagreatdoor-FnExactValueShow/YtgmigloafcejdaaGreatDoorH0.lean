/- Small laws on worlds and blocks that the walks of this seat lean on. No program is named here. -/
import Derived.WalkKit
import Derived.WalkLawsBesides
import Derived.WalkSpells
import Derived.Handy
import Derived.BigQuiet
import Derived.BigRegion
import Derived.Deep.QuietTactic
import Derived.Deep.RegionHeld3
import Derived.Deep.RegionLaw
import Derived.Laws.BitsAllLaws
import Derived.Laws.CopyOwn
import Derived.Lib.ConvBytes
import Derived.ArgAppend
import Derived.Deep.MidRow
import Derived.Lib.Hide
namespace Go.Proofs.YtgmigloafcejdaaGreatDoor
open Go.RowKit

/-- block b holds just the cells L, none frozen -/
def Blk (w : World) (b : Nat) (t : TypeId) (L : List Value) : Prop := w.heap[b]? = some (.cells L.toArray t (0, 0))

theorem Blk.lt {w : World} {b : Nat} {t : TypeId} {L : List Value} (h : Blk w b t L) : b < w.heap.size := lt_of_block h
theorem Blk.cell {w : World} {b : Nat} {t : TypeId} {L : List Value} (h : Blk w b t L) {j : Nat} {v : Value} (hv : L[j]? = some v) : w.cell? ⟨b, j, none⟩ = some v := by
  rw [cell_of_row w b j L.toArray t (0, 0) h]; simpa using hv
theorem Blk.frozen {w : World} {b : Nat} {t : TypeId} {L : List Value} (h : Blk w b t L) (j : Nat) : w.frozen? ⟨b, j, none⟩ = false := frozen_of_row w b j _ t h
theorem Blk.set {w : World} {b : Nat} {t : TypeId} {L : List Value} (h : Blk w b t L) (j : Nat) (v : Value) : Blk (w.setCell ⟨b, j, none⟩ v) b t (L.set j v) := by
  have := heap_setCell_same w b j L.toArray t v h
  simpa [Blk] using this
theorem Blk.kept {w w' : World} {b : Nat} {t : TypeId} {L : List Value} {row : Option Nat} (h : Blk w b t L) (hg : w.grownBy w' row) (hne : some b ≠ row) : Blk w' b t L := by
  unfold Blk at *; rw [hg.block b (lt_of_block h) hne]; exact h
theorem Blk.drewN {w : World} {b : Nat} {t : TypeId} {L : List Value} (h : Blk w b t L) (n : Nat) : Blk (w.drewN n) b t L := h
theorem Blk.drew {w : World} {b : Nat} {t : TypeId} {L : List Value} (h : Blk w b t L) : Blk w.drew b t L := h
theorem Blk.alloc {w : World} {b : Nat} {t : TypeId} {L : List Value} (h : Blk w b t L) (o : Obj) : Blk (w.alloc o) b t L := by
  unfold Blk at *; rw [Below.heap_alloc w o b (lt_of_block h)]; exact h
theorem Blk.new (w : World) (t : TypeId) (L : List Value) : Blk (w.alloc (.cells L.toArray t)) w.heap.size t L := heap_alloc_new w _

theorem grown_refl (w : World) (row : Option Nat) : w.grownBy w row := ⟨rfl, rfl, rfl, Nat.le_refl _, fun _ _ _ => rfl⟩
theorem grown_trans {a b c : World} {row : Option Nat} (h : a.grownBy b row) (k : b.grownBy c row) : a.grownBy c row :=
  ⟨k.os.trans h.os, k.tape.trans h.tape, k.output.trans h.output, Nat.le_trans h.size k.size, fun i hi hr => (k.block i (Nat.lt_of_lt_of_le hi h.size) hr).trans (h.block i hi hr)⟩
theorem grown_drewN {a b : World} {row : Option Nat} (h : a.grownBy b row) (n : Nat) : a.grownBy (b.drewN n) row := grown_trans h ⟨rfl, rfl, rfl, Nat.le_refl _, fun _ _ _ => rfl⟩
theorem grown_drew {a b : World} {row : Option Nat} (h : a.grownBy b row) : a.grownBy b.drew row := grown_trans h ⟨rfl, rfl, rfl, Nat.le_refl _, fun _ _ _ => rfl⟩
theorem grown_set {a w : World} {b : Nat} (h : a.grownBy w (some b)) (j : Nat) (v : Value) : a.grownBy (w.setCell ⟨b, j, none⟩ v) (some b) :=
  grown_trans h ⟨rfl, rfl, rfl, by simp [World.setCell], fun k _ hr => heap_setCell_other _ _ _ _ (fun e => hr (by rw [e]))⟩
theorem grown_alloc {a w : World} {row : Option Nat} (h : a.grownBy w row) (o : Obj) : a.grownBy (w.alloc o) row := grown_trans h (World.grownBy_alloc w o row)
theorem grown_setRow {a w : World} {b : Nat} (h : a.grownBy w (some b)) (C : Array Value) : a.grownBy (w.setRow b C) (some b) :=
  grown_trans h ⟨rfl, rfl, rfl, by simp [World.setRow], fun k _ hr => setRow_other w b k C (fun e => hr (by rw [e]))⟩
theorem grown_setCells0 (w : World) (b : Nat) : ∀ (o : Nat) (r : List Value), w.grownBy (w.setCells b o r) (some b) := fun o r => by
  induction r generalizing w o with
  | nil => exact grown_refl w _
  | cons v r ih => exact grown_trans (grown_set (grown_refl w (some b)) o v) (ih (w.setCell ⟨b, o, none⟩ v) (o + 1))
/-- what is written is new: nothing old has turned -/
theorem grown_new {a w : World} {b : Nat} {row : Option Nat} (h : a.grownBy w (some b)) (hb : a.heap.size ≤ b) : a.grownBy w row :=
  ⟨h.os, h.tape, h.output, h.size, fun i hi _ => h.block i hi (fun e => by cases e; omega)⟩
/-- a step that writes into a block newer than the beginning -/
theorem grown_into {a w w' : World} {b : Nat} {row : Option Nat} (h : a.grownBy w row) (k : w.grownBy w' (some b)) (hb : a.heap.size ≤ b) : a.grownBy w' row :=
  ⟨k.os.trans h.os, k.tape.trans h.tape, k.output.trans h.output, Nat.le_trans h.size k.size, fun i hi hr => (k.block i (Nat.lt_of_lt_of_le hi h.size) (fun e => by cases e; omega)).trans (h.block i hi hr)⟩
theorem grown_widen {a w : World} {row : Option Nat} (h : a.grownBy w none) : a.grownBy w row := ⟨h.os, h.tape, h.output, h.size, fun i hi _ => h.block i hi (by simp)⟩
theorem below_of_grown {a w : World} {row : Option Nat} (h : a.grownBy w row) (hr : ∀ k, row = some k → a.heap.size ≤ k) : Below a.heap.size a w :=
  ⟨h.os, h.tape, h.output, h.size, fun k hk => h.block k hk (fun e => by have := hr k e.symm; omega)⟩
theorem grown_of_below {a w : World} (h : Below a.heap.size a w) (row : Option Nat) : a.grownBy w row := ⟨h.os, h.tape, h.output, h.size, fun k hk _ => h.block k hk⟩

/-- 'copy' into a block that is known whole, as one step of a region that draws its order; the world behind it is a letter -/
theorem step_copy_blk {P : Program} {ops : Array Oper} {o : Oper} {a : Act} {w : World} {K : Act → World → Prop} {Q : Exit → Act → World → Prop} {E : Prop} (hgd : o.guard = none) (d s : Operand) (dT sT : TypeId)
    (ho : o.op = .call { callee := .builtin .copy, args := #[d, s], argTypes := #[dT, sT] }) (elem : TypeId) (hu : P.underlying dT = some (.slice elem)) (hsz : (P.info? elem).map (·.size) = some 1)
    (g off dLen dCap : Nat) (ad : Addr) (sLen sCap : Nat) (hd : a.eval d = .slice (some ⟨g, off, none⟩) dLen dCap) (hs : a.eval s = .slice (some ad) sLen sCap)
    (cur : List Value) (t : TypeId) (hg : Blk w g t cur) (cs : List Value) (hn : cs.length = Nat.min sLen dLen)
    (hsrc : ∀ j v, cs[j]? = some v → w.cell? (ad.add j) = some v)
    (hfit : off + cs.length ≤ cur.length) (h1 : ∀ v ∈ cs, v.oneCell' = true)
    (h : ∀ w', Blk w' g t (splice cur off cs) → Hid (w.grownBy w' (some g)) → K (a.put o.dst (goInt cs.length)) w') :
    if Region.wanted o (yielded ops a.tmps) = true then Oper.wp P o a w K Q else E := by
  have hw : Region.wanted o (yielded ops a.tmps) = true := by simp [Region.wanted, hgd]
  rw [if_pos hw]
  have hrun := run_copy_row (P := P) w dT sT o.type elem g off dLen dCap ad sLen sCap cur.toArray t cs hu hsz hg hn hsrc (by simpa using hfit) h1
  unfold Oper.wp
  simp [execOp, ho, resolve, invoke, builtin, hd, hs, hrun, Result.andThen]
  refine h _ (show _ = _ by simpa [splice] using setRow_heap w g _ _ t _ hg) ⟨rfl, rfl, rfl, by simp [World.setRow], fun k _ hr => setRow_other w g k _ (fun e => hr (by rw [e]))⟩

end Go.Proofs.YtgmigloafcejdaaGreatDoor

namespace Go.Proofs.YtgmigloafcejdaaGreatDoor
open Go.RowKit

/-- the slice v holds the cells xs, in a block of the call's own (from base on), all of whose cells may be written; or it is nil and holds nothing -/
def Row (w : World) (base : Nat) (v : Value) (xs : List Value) : Prop :=
  (v = .slice none 0 0 ∧ xs = []) ∨
  ∃ g cap, v = .slice (some ⟨g, 0, none⟩) xs.length cap ∧ base ≤ g ∧ g < w.heap.size ∧ xs.length ≤ cap ∧ (∀ j, j < xs.length → w.cell? ⟨g, j, none⟩ = xs[j]?) ∧ (∀ j, j < cap → (w.cell? ⟨g, j, none⟩).isSome = true ∧ w.frozen? ⟨g, j, none⟩ = false)

theorem Row.nil (w : World) (base : Nat) : Row w base (.slice none 0 0) [] := .inl ⟨rfl, rfl⟩
theorem Row.lt {w : World} {base : Nat} {v : Value} {xs : List Value} (h : Row w base v xs) : ∀ k, v.ownBlock = some k → base ≤ k ∧ k < w.heap.size := by
  intro k hk
  rcases h with ⟨rfl, _⟩ | ⟨g, cap, rfl, hb, hl, _⟩
  · simp [Value.ownBlock] at hk
  · simp [Value.ownBlock] at hk; subst hk; exact ⟨hb, hl⟩
theorem Row.kept {w w' : World} {base : Nat} {v : Value} {xs : List Value} {row : Option Nat} (h : Row w base v xs) (hg : w.grownBy w' row) (hne : ∀ k, v.ownBlock = some k → some k ≠ row) : Row w' base v xs := by
  rcases h with h | ⟨g, cap, rfl, hb, hl, hn, hc, hf⟩
  · exact .inl h
  · have hbl := hg.block g hl (hne g rfl)
    refine .inr ⟨g, cap, rfl, hb, Nat.lt_of_lt_of_le hl hg.size, hn, fun j hj => ?_, fun j hj => ?_⟩
    · rw [World.cell?_of_block (w := w) (a := ⟨g, j, none⟩) hbl]; exact hc j hj
    · rw [World.cell?_of_block (w := w) (a := ⟨g, j, none⟩) hbl, World.frozen?_of_block (w := w) (a := ⟨g, j, none⟩) hbl]; exact hf j hj
theorem Row.alloc {w : World} {base : Nat} {v : Value} {xs : List Value} (h : Row w base v xs) (o : Obj) : Row (w.alloc o) base v xs := h.kept (World.grownBy_alloc w o none) (by simp)
theorem Row.drew {w : World} {base : Nat} {v : Value} {xs : List Value} (h : Row w base v xs) : Row w.drew base v xs := h
theorem Row.drewN {w : World} {base : Nat} {v : Value} {xs : List Value} (h : Row w base v xs) (n : Nat) : Row (w.drewN n) base v xs := h
theorem Row.base {w : World} {base b' : Nat} {v : Value} {xs : List Value} (h : Row w base v xs) (hb : b' ≤ base) : Row w b' v xs := by
  rcases h with h | ⟨g, cap, rfl, hb2, r⟩
  · exact .inl h
  · exact .inr ⟨g, cap, rfl, by omega, r⟩
theorem Row.of_owns {w : World} {base : Nat} {e : TypeId} {v : Value} {n : Nat} {xs : List Value} (h : w.ownsRow base e 1 v n xs) : Row w base v xs := by
  obtain ⟨hl, h | ⟨g, cap, cur, rfl, hb, hh, hn, _, hs, ht⟩⟩ := h
  · obtain ⟨rfl, rfl⟩ := h
    exact .inl ⟨rfl, List.eq_nil_of_length_eq_zero (by simpa using hl)⟩
  · obtain rfl : n = xs.length := by omega
    refine .inr ⟨g, cap, rfl, hb, lt_of_block hh, hn, fun j hj => ?_, fun j hj => ?_⟩
    · rw [cell_of_row w g j cur e (0, 0) hh, ← ht, List.getElem?_take, if_pos (by omega)]; simp
    · rw [cell_of_row w g j cur e (0, 0) hh]
      have : j < cur.size := by omega
      exact ⟨by simp [this], by simp [World.frozen?, hh]⟩
/-- the row of a conversion -/
theorem Row.bytes (w : World) (e : TypeId) (s : ByteArray) : Row (Lib.bytesWorld w e s) w.heap.size (.slice (some ⟨w.heap.size, 0, none⟩) s.size (grownCap w s.size 0 e)) (s.data.toList.map fun b => Value.int .u8 (b.toNat : Int)) := by
  have hsz : (Lib.bytesCells w e s).size = grownCap w s.size 0 e := by
    have := grownCap_ge w s.size 0 e
    have hds : s.data.size = s.size := rfl
    simp [Lib.bytesCells, hds]; omega
  refine .inr ⟨w.heap.size, grownCap w s.size 0 e, by simp, Nat.le_refl _, by rw [Lib.bytesWorld_size]; omega, by simpa using grownCap_ge w s.size 0 e, fun j hj => ?_, fun j hj => ?_⟩
  · have hj' : j < s.size := by simpa using hj
    have hj2 : j < s.data.size := hj'
    rw [Lib.bytesWorld_cell w e s j hj']
    simp only [List.getD_eq_getElem?_getD, List.getElem?_map, Array.getElem?_toList, Array.getElem?_eq_getElem hj2, Option.map_some, Option.getD_some]
  · have hb := Lib.bytesWorld_at_new w e s
    refine ⟨?_, ?_⟩
    · rw [cell_of_row _ w.heap.size j _ e _ hb]
      have : j < (Lib.bytesCells w e s).size := by omega
      simp [this]
    · simp [World.frozen?, hb]; omega
theorem Row.made (w : World) (e : TypeId) (C : Array Value) (cap : Nat) (hs : C.size = cap) : Row (w.alloc (.cells C e)) w.heap.size (.slice (some ⟨w.heap.size, 0, none⟩) 0 cap) [] := by
  have hh : (w.alloc (.cells C e)).heap[w.heap.size]? = some (.cells C e (0, 0)) := heap_alloc_new w _
  refine .inr ⟨w.heap.size, cap, rfl, Nat.le_refl _, by simp, Nat.zero_le _, fun j hj => absurd hj (Nat.not_lt_zero _), fun j hj => ?_⟩
  rw [cell_of_row _ w.heap.size j C e (0, 0) hh]
  have : j < C.size := by omega
  exact ⟨by simp [this], frozen_of_row _ w.heap.size j C e hh⟩
theorem Row.lit (w : World) (e : TypeId) (L : List Value) : Row (w.alloc (.cells L.toArray e)) w.heap.size (.slice (some ⟨w.heap.size, 0, none⟩) L.length L.length) L := by
  have hh : Blk (w.alloc (.cells L.toArray e)) w.heap.size e L := Blk.new w e L
  refine .inr ⟨w.heap.size, L.length, rfl, Nat.le_refl _, by simp, Nat.le_refl _, fun j hj => ?_, fun j hj => ⟨?_, hh.frozen j⟩⟩
  · rw [List.getElem?_eq_getElem hj]; exact hh.cell (List.getElem?_eq_getElem hj)
  · rw [hh.cell (List.getElem?_eq_getElem hj)]; rfl

/-- what an append does to a row -/
theorem Row.append {P : Program} (w : World) (t ty e : TypeId) (i : TypeInfo) (z : Value) (bytes : Nat) (h1 : P.underlying t = some (.slice e)) (h2 : P.info? e = some i) (h3 : i.zero = some z) (h4 : i.size = 1) (h5 : i.bytes = bytes) (h6 : z.cells.size = 1)
    (base : Nat) (v : Value) (xs : List Value) (hrow : Row w base v xs) (ad : Addr) (m c : Nat) (news : List Value) (hn : news.length = m) (hc : ∀ j u, news[j]? = some u → w.cell? (ad.add j) = some u) (h1c : ∀ u ∈ news, u.oneCell' = true)
    (b1 : xs.length + m ≤ maxLen) (b2 : (xs.length + m) * bytes ≤ 140737488355328) (hb : base ≤ w.heap.size) :
    ∃ v' w', (Builtin.append_ #[t, t] ty #[v, .slice (some ad) m c]).run P w = .ok v' w' ∧ Row w' base v' (xs ++ news) ∧ w.grownBy w' v.ownBlock := by
  rcases hrow with ⟨rfl, rfl⟩ | ⟨g, cap, rfl, hbg, hl, hcap, hcell, hfree⟩
  · obtain ⟨v', w', hrun, r1, r2, _⟩ := run_append_own (P := P) w w.heap.size t ty e i z 1 bytes h1 h2 h3 h4 h5 h6 (by decide) (.slice none 0 0) 0 [] (World.ownsRow_nil w _ e 1) ad m c news (by simpa using hn) hc h1c (by simpa using b1) (by simpa using b2) (Nat.le_refl _)
    exact ⟨v', w', hrun, (Row.of_owns r1).base hb, r2⟩
  · by_cases hr : xs.length + m ≤ cap
    · have hrun := run_append_room_cells (P := P) w t ty e i h1 h2 g 0 xs.length cap ad m c news (by rw [h4]; omega) hc h1c hr
        (fun j hj => by rw [h4]; simpa using (hfree (xs.length + j) (by omega)).1) (fun j hj => by rw [h4]; simpa using (hfree (xs.length + j) (by omega)).2)
      rw [h4] at hrun
      simp only [Nat.zero_add, Nat.mul_one] at hrun
      refine ⟨_, _, hrun, .inr ⟨g, cap, by simp [hn], hbg, ?_, by simp; omega, fun j hj => ?_, fun j hj => ?_⟩, ?_⟩
      · have := (grown_setCells0 w g xs.length news).size
        omega
      · simp only [List.length_append] at hj
        by_cases hj1 : j < xs.length
        · rw [World.cell?_setCells_out g news xs.length w ⟨g, j, none⟩ (fun _ _ => Or.inl hj1), hcell j hj1, List.getElem?_append_left hj1]
        · have := World.cell?_setCells_in g news xs.length w (fun q hq => (hfree (xs.length + q) (by omega)).1) (j - xs.length) (by omega)
          rw [show xs.length + (j - xs.length) = j from by omega] at this
          rw [this, List.getElem?_append_right (by omega), List.getElem?_eq_getElem]
      · rw [World.frozen?_setCells]
        exact ⟨World.isSome_setCells g news xs.length w _ (hfree j hj).1, (hfree j hj).2⟩
      · exact grown_setCells0 w g xs.length news
    · obtain ⟨v', w', hrun, r1, r2⟩ := run_append_arg_grows (P := P) w t ty e i z 1 bytes h1 h2 h3 h4 h5 h6 (by decide) ⟨g, 0, none⟩ xs.length cap xs (by simp) (fun j u hj => by
        rw [Addr.add_mid, Nat.zero_add, hcell j (List.getElem?_eq_some_iff.1 hj).1, hj]) ad m c news (by simpa using hn) hc (by omega) b1 b2
      exact ⟨v', w', hrun, (Row.of_owns r1).base hb, grown_widen r2⟩

theorem wpList_append_row {P : Program} {w : World} {ops : Array Oper} {rest : List Oper} {o : Oper} {a : Act} {Q : Exit → Act → World → Prop} (hgd : o.guard = none) (s x : Operand) (t : TypeId)
    (ho : o.op = .call { callee := .builtin .append, args := #[s, x], argTypes := #[t, t] }) (e : TypeId) (i : TypeInfo) (z : Value) (bytes : Nat) (h1 : P.underlying t = some (.slice e)) (h2 : P.info? e = some i) (h3 : i.zero = some z) (h4 : i.size = 1) (h5 : i.bytes = bytes) (h6 : z.cells.size = 1)
    (base : Nat) (v : Value) (xs : List Value) (hs : a.eval s = v) (hrow : Row w base v xs) (ad : Addr) (m c : Nat) (news : List Value) (hx : a.eval x = .slice (some ad) m c) (hn : news.length = m) (hc : ∀ j u, news[j]? = some u → w.cell? (ad.add j) = some u) (h1c : ∀ u ∈ news, u.oneCell' = true)
    (b1 : xs.length + m ≤ maxLen) (b2 : (xs.length + m) * bytes ≤ 140737488355328) (hb : base ≤ w.heap.size)
    (h : ∀ v' w', Hid (Row w' base v' (xs ++ news)) → Hid (w.grownBy w' v.ownBlock) → wpList P ops Q rest (a.put o.dst v') w') : wpList P ops Q (o :: rest) a w := by
  refine wpList_plain hgd fun K hK => ?_
  obtain ⟨v', w', hrun, r1, r2⟩ := Row.append (P := P) w t o.type e i z bytes h1 h2 h3 h4 h5 h6 base v xs hrow ad m c news hn hc h1c b1 b2 hb
  unfold Oper.wp
  simp [execOp, ho, resolve, invoke, builtin, hs, hx, hrun, Result.andThen]
  exact hK _ _ (h v' w' r1 r2)

theorem step_append_row {P : Program} {w : World} {ops : Array Oper} {o : Oper} {a : Act} {K : Act → World → Prop} {Q : Exit → Act → World → Prop} {E : Prop} (hgd : o.guard = none) (s x : Operand) (t : TypeId)
    (ho : o.op = .call { callee := .builtin .append, args := #[s, x], argTypes := #[t, t] }) (e : TypeId) (i : TypeInfo) (z : Value) (bytes : Nat) (h1 : P.underlying t = some (.slice e)) (h2 : P.info? e = some i) (h3 : i.zero = some z) (h4 : i.size = 1) (h5 : i.bytes = bytes) (h6 : z.cells.size = 1)
    (base : Nat) (v : Value) (xs : List Value) (hs : a.eval s = v) (hrow : Row w base v xs) (ad : Addr) (m c : Nat) (news : List Value) (hx : a.eval x = .slice (some ad) m c) (hn : news.length = m) (hc : ∀ j u, news[j]? = some u → w.cell? (ad.add j) = some u) (h1c : ∀ u ∈ news, u.oneCell' = true)
    (b1 : xs.length + m ≤ maxLen) (b2 : (xs.length + m) * bytes ≤ 140737488355328) (hb : base ≤ w.heap.size)
    (h : ∀ v' w', Hid (Row w' base v' (xs ++ news)) → Hid (w.grownBy w' v.ownBlock) → K (a.put o.dst v') w') :
    if Region.wanted o (yielded ops a.tmps) = true then Oper.wp P o a w K Q else E := by
  have hw : Region.wanted o (yielded ops a.tmps) = true := by simp [Region.wanted, hgd]
  rw [if_pos hw]
  obtain ⟨v', w', hrun, r1, r2⟩ := Row.append (P := P) w t o.type e i z bytes h1 h2 h3 h4 h5 h6 base v xs hrow ad m c news hn hc h1c b1 b2 hb
  unfold Oper.wp
  simp [execOp, ho, resolve, invoke, builtin, hs, hx, hrun, Result.andThen]
  exact h v' w' r1 r2

theorem grown_undrew {w w' : World} {row : Option Nat} (h : w.drew.grownBy w' row) : w.grownBy w' row := ⟨h.os, h.tape, h.output, h.size, h.block⟩
/-- what lies below the call's own blocks is as it was behind an append -/
theorem row_keep {w w1 : World} {base : Nat} {v : Value} {xs : List Value} {o : Obj} (hrow : Row w base v xs) (hg : (w.alloc o).drew.grownBy w1 v.ownBlock) {a : Addr} {u : Value} (ha : a.block < base) (h : w.cell? a = some u) : w1.cell? a = some u := by
  refine ((World.grownBy_alloc w o none).cell h (by simp) |> fun h2 => (grown_undrew hg).cell h2 ?_)
  intro e
  have := (hrow.lt a.block e.symm).1
  omega

/-- the world under a letter: of it is known what is said -/
theorem wp_letter {P : Program} {c : Code} {Q : Exit → Act → World → Prop} {a : Act} {w : World} (S : World → Prop) (h0 : S w) (h : ∀ wx, S wx → c.wp P Q a wx) : c.wp P Q a w := h w h0

end Go.Proofs.YtgmigloafcejdaaGreatDoor

namespace Go.Proofs.YtgmigloafcejdaaGreatDoor
open Go.RowKit

theorem news_new (w : World) (t : TypeId) (L : List Value) : ∀ j u, L[j]? = some u → (w.alloc (.cells L.toArray t)).cell? ((⟨w.heap.size, 0, none⟩ : Addr).add j) = some u := fun j u hu => by
  rw [Addr.add_mid, Nat.zero_add]; exact (Blk.new w t L).cell hu
theorem grown_own {a w w' : World} {row : Option Nat} {r : Option Nat} (h : a.grownBy w r) (k : w.grownBy w' row) (hb : ∀ q, row = some q → a.heap.size ≤ q) : a.grownBy w' r :=
  ⟨k.os.trans h.os, k.tape.trans h.tape, k.output.trans h.output, Nat.le_trans h.size k.size, fun i hi hr => (k.block i (Nat.lt_of_lt_of_le hi h.size) (fun e => by have := hb i e.symm; omega)).trans (h.block i hi hr)⟩
theorem info_parts {P : Program} {t : TypeId} {z : Value} {s b : Nat} (h : (P.info? t).map (fun i => (i.zero, i.size, i.bytes)) = some (some z, s, b)) : ∃ i, P.info? t = some i ∧ i.zero = some z ∧ i.size = s ∧ i.bytes = b := by
  cases hq : P.info? t with
  | none => simp [hq] at h
  | some i =>
    simp [hq] at h
    exact ⟨i, rfl, h.1, h.2.1, h.2.2⟩
def ints (L : List Int) : List Value := L.map (Value.int .i64)
theorem ints_one (L : List Int) : ∀ v ∈ ints L, v.oneCell' = true := fun v hv => by
  obtain ⟨s, _, rfl⟩ := List.mem_map.1 hv
  rfl
theorem ints_len (L : List Int) : (ints L).length = L.length := by simp [ints]
theorem ints_app (L M : List Int) : ints (L ++ M) = ints L ++ ints M := by simp [ints]
/-- a row of numbers, opened -/
theorem row_ints {w : World} {base : Nat} {v : Value} {L : List Int} (h : Row w base v (ints L)) : ∃ ta g cp, v = .slice ta L.length cp ∧ L.length ≤ cp ∧ (0 < L.length → ta = some ⟨g, 0, none⟩) ∧ (∀ j, j < L.length → w.cell? ⟨g, j, none⟩ = some (.int .i64 (L.getD j 0))) ∧ (∀ j, j < L.length → w.frozen? ⟨g, j, none⟩ = false) ∧ (0 < L.length → base ≤ g ∧ g < w.heap.size) ∧ (0 < L.length → v.ownBlock = some g) := by
  rcases h with ⟨rfl, h0⟩ | ⟨g, cap, rfl, hb, hl, hn, hc, hf⟩
  · have : L = [] := by simpa [ints] using h0
    subst this
    exact ⟨none, 0, 0, rfl, by simp, fun h => absurd h (by simp), fun j hj => absurd hj (by simp), fun j hj => absurd hj (by simp), fun h => absurd h (by simp), fun h => absurd h (by simp)⟩
  · rw [ints_len] at *
    refine ⟨_, g, cap, rfl, hn, fun _ => rfl, fun j hj => ?_, fun j hj => (hf j (by omega)).2, fun _ => ⟨hb, hl⟩, fun _ => rfl⟩
    rw [hc j hj]
    simp [ints, hj]
/-- those below k of which p says yes, in order -/
def filtL (p : Nat → Bool) (k : Nat) : List Int := ((List.range k).filter p).map fun (j : Nat) => (j : Int)
theorem filtL_succ (p : Nat → Bool) (k : Nat) : filtL p (k + 1) = filtL p k ++ (if p k then [(k : Int)] else []) := by
  unfold filtL
  rw [List.range_succ, List.filter_append, List.map_append]
  cases h : p k <;> simp [h]
theorem filtL_len (p : Nat → Bool) (k : Nat) : (filtL p k).length ≤ k := by
  unfold filtL
  have := List.length_filter_le p (List.range k)
  simpa using this
theorem filtL_congr (p q : Nat → Bool) (k : Nat) (h : ∀ j, j < k → p j = q j) : filtL p k = filtL q k := by
  unfold filtL
  rw [List.filter_congr (fun x hx => h x (List.mem_range.1 hx))]

end Go.Proofs.YtgmigloafcejdaaGreatDoor

namespace Go.Proofs.YtgmigloafcejdaaGreatDoor
open Go.RowKit

/-- what an append does to a row -/
theorem Row.append2 {P : Program} (w : World) (t ty e : TypeId) (i : TypeInfo) (z : Value) (bytes : Nat) (h1 : P.underlying t = some (.slice e)) (h2 : P.info? e = some i) (h3 : i.zero = some z) (h4 : i.size = 1) (h5 : i.bytes = bytes) (h6 : z.cells.size = 1)
    (base : Nat) (v : Value) (xs : List Value) (hrow : Row w base v xs) (ad : Addr) (m c : Nat) (news : List Value) (hn : news.length = m) (hc : ∀ j u, news[j]? = some u → w.cell? (ad.add j) = some u) (h1c : ∀ u ∈ news, u.oneCell' = true)
    (b1 : xs.length + m ≤ maxLen) (b2 : (xs.length + m) * bytes ≤ 140737488355328) (hb : base ≤ w.heap.size) :
    ∃ v' w', (Builtin.append_ #[t, t] ty #[v, .slice (some ad) m c]).run P w = .ok v' w' ∧ Row w' base v' (xs ++ news) ∧ w.grownBy w' v.ownBlock ∧ (∀ q, v'.ownBlock = some q → v.ownBlock = some q ∨ w.heap.size ≤ q) := by
  rcases hrow with ⟨rfl, rfl⟩ | ⟨g, cap, rfl, hbg, hl, hcap, hcell, hfree⟩
  · obtain ⟨v', w', hrun, r1, r2, _⟩ := run_append_own (P := P) w w.heap.size t ty e i z 1 bytes h1 h2 h3 h4 h5 h6 (by decide) (.slice none 0 0) 0 [] (World.ownsRow_nil w _ e 1) ad m c news (by simpa using hn) hc h1c (by simpa using b1) (by simpa using b2) (Nat.le_refl _)
    exact ⟨v', w', hrun, (Row.of_owns r1).base hb, r2, fun q hq => .inr ((Row.of_owns r1).lt q hq).1⟩
  · by_cases hr : xs.length + m ≤ cap
    · have hrun := run_append_room_cells (P := P) w t ty e i h1 h2 g 0 xs.length cap ad m c news (by rw [h4]; omega) hc h1c hr
        (fun j hj => by rw [h4]; simpa using (hfree (xs.length + j) (by omega)).1) (fun j hj => by rw [h4]; simpa using (hfree (xs.length + j) (by omega)).2)
      rw [h4] at hrun
      simp only [Nat.zero_add, Nat.mul_one] at hrun
      refine ⟨_, _, hrun, .inr ⟨g, cap, by simp [hn], hbg, ?_, by simp; omega, fun j hj => ?_, fun j hj => ?_⟩, ?_, fun q hq => .inl hq⟩
      · have := (grown_setCells0 w g xs.length news).size
        omega
      · simp only [List.length_append] at hj
        by_cases hj1 : j < xs.length
        · rw [World.cell?_setCells_out g news xs.length w ⟨g, j, none⟩ (fun _ _ => Or.inl hj1), hcell j hj1, List.getElem?_append_left hj1]
        · have := World.cell?_setCells_in g news xs.length w (fun q hq => (hfree (xs.length + q) (by omega)).1) (j - xs.length) (by omega)
          rw [show xs.length + (j - xs.length) = j from by omega] at this
          rw [this, List.getElem?_append_right (by omega), List.getElem?_eq_getElem]
      · rw [World.frozen?_setCells]
        exact ⟨World.isSome_setCells g news xs.length w _ (hfree j hj).1, (hfree j hj).2⟩
      · exact grown_setCells0 w g xs.length news
    · obtain ⟨v', w', hrun, r1, r2⟩ := run_append_arg_grows (P := P) w t ty e i z 1 bytes h1 h2 h3 h4 h5 h6 (by decide) ⟨g, 0, none⟩ xs.length cap xs (by simp) (fun j u hj => by
        rw [Addr.add_mid, Nat.zero_add, hcell j (List.getElem?_eq_some_iff.1 hj).1, hj]) ad m c news (by simpa using hn) hc (by omega) b1 b2
      exact ⟨v', w', hrun, (Row.of_owns r1).base hb, grown_widen r2, fun q hq => .inr ((Row.of_owns r1).lt q hq).1⟩

theorem wpList_append_row2 {P : Program} {w : World} {ops : Array Oper} {rest : List Oper} {o : Oper} {a : Act} {Q : Exit → Act → World → Prop} (hgd : o.guard = none) (s x : Operand) (t : TypeId)
    (ho : o.op = .call { callee := .builtin .append, args := #[s, x], argTypes := #[t, t] }) (e : TypeId) (i : TypeInfo) (z : Value) (bytes : Nat) (h1 : P.underlying t = some (.slice e)) (h2 : P.info? e = some i) (h3 : i.zero = some z) (h4 : i.size = 1) (h5 : i.bytes = bytes) (h6 : z.cells.size = 1)
    (base : Nat) (v : Value) (xs : List Value) (hs : a.eval s = v) (hrow : Row w base v xs) (ad : Addr) (m c : Nat) (news : List Value) (hx : a.eval x = .slice (some ad) m c) (hn : news.length = m) (hc : ∀ j u, news[j]? = some u → w.cell? (ad.add j) = some u) (h1c : ∀ u ∈ news, u.oneCell' = true)
    (b1 : xs.length + m ≤ maxLen) (b2 : (xs.length + m) * bytes ≤ 140737488355328) (hb : base ≤ w.heap.size)
    (h : ∀ v' w', Hid (Row w' base v' (xs ++ news)) → Hid (w.grownBy w' v.ownBlock) → Hid (∀ q, v'.ownBlock = some q → v.ownBlock = some q ∨ w.heap.size ≤ q) → wpList P ops Q rest (a.put o.dst v') w') : wpList P ops Q (o :: rest) a w := by
  refine wpList_plain hgd fun K hK => ?_
  obtain ⟨v', w', hrun, r1, r2, r3⟩ := Row.append2 (P := P) w t o.type e i z bytes h1 h2 h3 h4 h5 h6 base v xs hrow ad m c news hn hc h1c b1 b2 hb
  unfold Oper.wp
  simp [execOp, ho, resolve, invoke, builtin, hs, hx, hrun, Result.andThen]
  exact hK _ _ (h v' w' r1 r2 r3)

theorem step_append_row2 {P : Program} {w : World} {ops : Array Oper} {o : Oper} {a : Act} {K : Act → World → Prop} {Q : Exit → Act → World → Prop} {E : Prop} (hgd : o.guard = none) (s x : Operand) (t : TypeId)
    (ho : o.op = .call { callee := .builtin .append, args := #[s, x], argTypes := #[t, t] }) (e : TypeId) (i : TypeInfo) (z : Value) (bytes : Nat) (h1 : P.underlying t = some (.slice e)) (h2 : P.info? e = some i) (h3 : i.zero = some z) (h4 : i.size = 1) (h5 : i.bytes = bytes) (h6 : z.cells.size = 1)
    (base : Nat) (v : Value) (xs : List Value) (hs : a.eval s = v) (hrow : Row w base v xs) (ad : Addr) (m c : Nat) (news : List Value) (hx : a.eval x = .slice (some ad) m c) (hn : news.length = m) (hc : ∀ j u, news[j]? = some u → w.cell? (ad.add j) = some u) (h1c : ∀ u ∈ news, u.oneCell' = true)
    (b1 : xs.length + m ≤ maxLen) (b2 : (xs.length + m) * bytes ≤ 140737488355328) (hb : base ≤ w.heap.size)
    (h : ∀ v' w', Hid (Row w' base v' (xs ++ news)) → Hid (w.grownBy w' v.ownBlock) → Hid (∀ q, v'.ownBlock = some q → v.ownBlock = some q ∨ w.heap.size ≤ q) → K (a.put o.dst v') w') :
    if Region.wanted o (yielded ops a.tmps) = true then Oper.wp P o a w K Q else E := by
  have hw : Region.wanted o (yielded ops a.tmps) = true := by simp [Region.wanted, hgd]
  rw [if_pos hw]
  obtain ⟨v', w', hrun, r1, r2, r3⟩ := Row.append2 (P := P) w t o.type e i z bytes h1 h2 h3 h4 h5 h6 base v xs hrow ad m c news hn hc h1c b1 b2 hb
  unfold Oper.wp
  simp [execOp, ho, resolve, invoke, builtin, hs, hx, hrun, Result.andThen]
  exact h v' w' r1 r2 r3


/-- all blocks but those of X are as they were -/
structure Fr (w w' : World) (X : Nat → Prop) : Prop where
  os : w'.os = w.os
  tape : w'.tape = w.tape
  output : w'.output = w.output
  size : w.heap.size ≤ w'.heap.size
  block : ∀ i, i < w.heap.size → ¬ X i → w'.heap[i]? = w.heap[i]?
theorem Fr.of_grown {w w' : World} {r : Option Nat} {X : Nat → Prop} (h : w.grownBy w' r) (hr : ∀ q, r = some q → X q) : Fr w w' X :=
  ⟨h.os, h.tape, h.output, h.size, fun i hi hx => h.block i hi (fun e => hx (hr i e.symm))⟩
theorem Fr.trans {a b c : World} {X : Nat → Prop} (h : Fr a b X) (k : Fr b c X) : Fr a c X :=
  ⟨k.os.trans h.os, k.tape.trans h.tape, k.output.trans h.output, Nat.le_trans h.size k.size, fun i hi hx => (k.block i (Nat.lt_of_lt_of_le hi h.size) hx).trans (h.block i hi hx)⟩
theorem Fr.wide {a b : World} {X Y : Nat → Prop} (h : Fr a b X) (hxy : ∀ i, i < a.heap.size → X i → Y i) : Fr a b Y :=
  ⟨h.os, h.tape, h.output, h.size, fun i hi hy => h.block i hi (fun hx => hy (hxy i hi hx))⟩
theorem Fr.blk {w w' : World} {X : Nat → Prop} {b : Nat} {t : TypeId} {L : List Value} (h : Fr w w' X) (hb : Blk w b t L) (hx : ¬ X b) : Blk w' b t L := by
  unfold Blk at *; rw [h.block b (lt_of_block hb) hx]; exact hb
theorem Fr.row {w w' : World} {X : Nat → Prop} {base : Nat} {v : Value} {xs : List Value} (h : Fr w w' X) (hr : Row w base v xs) (hx : ∀ q, v.ownBlock = some q → ¬ X q) : Row w' base v xs := by
  rcases hr with hr | ⟨g, cap, rfl, hb, hl, hn, hc, hf⟩
  · exact .inl hr
  · have hbl := h.block g hl (hx g rfl)
    refine .inr ⟨g, cap, rfl, hb, Nat.lt_of_lt_of_le hl h.size, hn, fun j hj => ?_, fun j hj => ?_⟩
    · rw [World.cell?_of_block (w := w) (a := ⟨g, j, none⟩) hbl]; exact hc j hj
    · rw [World.cell?_of_block (w := w) (a := ⟨g, j, none⟩) hbl, World.frozen?_of_block (w := w) (a := ⟨g, j, none⟩) hbl]; exact hf j hj
/-- what is changed is newer than the beginning -/
theorem Fr.grown {a w w' : World} {X : Nat → Prop} {r : Option Nat} (h : a.grownBy w r) (k : Fr w w' X) (hx : ∀ i, i < a.heap.size → ¬ X i) : a.grownBy w' r :=
  ⟨k.os.trans h.os, k.tape.trans h.tape, k.output.trans h.output, Nat.le_trans h.size k.size, fun i hi hr => (k.block i (Nat.lt_of_lt_of_le hi h.size) (hx i hi)).trans (h.block i hi hr)⟩

end Go.Proofs.YtgmigloafcejdaaGreatDoor

namespace Go.Proofs.YtgmigloafcejdaaGreatDoor
open Go.RowKit

/-- only one operation may come up -/
theorem wpAny_one {P : Program} {md : Region.Mode} {ops : Array Oper} {Q : Exit → Act → World → Prop} {fuel i : Nat} {o : Oper} {listed : Array Bool} {a : Act} {w : World} (hr : Region.ready md ops listed = [i]) (ho : ops[i]? = some o)
    (h : if Region.wanted o (yielded ops a.tmps) = true then Oper.wp P o a w (wpAny P md ops Q fuel (listed.setIfInBounds i true)) Q else wpAny P md ops Q fuel (listed.setIfInBounds i true) (a.put o.dst undef) w) : wpAny P md ops Q (fuel + 1) listed a w := by
  refine wpAny_all hr (by simp) ?_
  intro j hj
  obtain rfl : j = i := by simpa using hj
  unfold wpOp
  simp only [ho]
  split
  · rename_i hw
    rw [if_pos hw] at h
    exact .inl h
  · rename_i hw
    rw [if_neg hw] at h
    exact h

/-- an operation whose guard does not let it -/
theorem wpStill_skip {P : Program} {ops : Array Oper} {w : World} {Q : Act → Prop} {a : Act} {o : Oper} {rest : List Oper} (h : Region.wanted o (yielded ops a.tmps) = false) (hK : wpStill P ops w Q rest (a.put o.dst undef)) : wpStill P ops w Q (o :: rest) a :=
  wpStill_step fun K hK' => by
    rw [if_neg (by rw [h]; decide)]
    exact hK' _ hK
end Go.Proofs.YtgmigloafcejdaaGreatDoor
