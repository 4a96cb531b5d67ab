/- Values in memory of one's own: which blocks they lie in, and rows of values that are added to. No program is named here. -/
import Derived.Test.YtgmigloafcejdaaGreatDoorV0
import Derived.Laws.AppendOwn
import Derived.Test.YtgmigloafcejdaaGreatDoorB0
import Derived.Test.YtgmigloafcejdaaGreatDoorChecked
namespace Go.Proofs.YtgmigloafcejdaaGreatDoor
open Go.RowKit

/-- the blocks of X are as they were -/
def Kept (w w' : World) (X : Nat → Prop) : Prop := ∀ b, b < w.heap.size → X b → w'.heap[b]? = w.heap[b]?
theorem Kept.of_grown {w w' : World} {row : Option Nat} {X : Nat → Prop} (h : w.grownBy w' row) (hx : ∀ q, row = some q → ¬ X q) : Kept w w' X := fun b hb hX => h.block b hb (fun e => hx b e.symm hX)
theorem Kept.cell {w w' : World} {X : Nat → Prop} (h : Kept w w' X) {b o : Nat} {v : Value} (hb : X b) (hc : w.cell? ⟨b, o, none⟩ = some v) : w'.cell? ⟨b, o, none⟩ = some v := by
  have hl : b < w.heap.size := by simpa using World.block_lt_of_cell? w _ hc
  rw [World.cell?_of_block (w := w) (a := ⟨b, o, none⟩) (h b hl hb)]; exact hc

/-- texts lie behind an address, in a block of X -/
def LX (w : World) (X : Nat → Prop) (ao : Option Addr) (ss : List ByteArray) : Prop := ss.length = 0 ∨ ∃ ab o, ao = some ⟨ab, o, none⟩ ∧ X ab ∧ ∀ j, j < ss.length → w.cell? ⟨ab, o + j, none⟩ = some (.string (ss.getD j ByteArray.empty))
theorem LX.kept {w w' : World} {X : Nat → Prop} {ao : Option Addr} {ss : List ByteArray} (h : LX w X ao ss) (hk : Kept w w' X) : LX w' X ao ss := by
  rcases h with h | ⟨ab, o, rfl, hb, h⟩
  · exact .inl h
  · exact .inr ⟨ab, o, rfl, hb, fun j hj => hk.cell hb (h j hj)⟩
theorem LX.mono {w : World} {X Y : Nat → Prop} {ao : Option Addr} {ss : List ByteArray} (h : LX w X ao ss) (hxy : ∀ b, b < w.heap.size → X b → Y b) : LX w Y ao ss := by
  rcases h with h | ⟨ab, o, rfl, hb, h⟩
  · exact .inl h
  · by_cases h0 : ss.length = 0
    · exact .inl h0
    · exact .inr ⟨ab, o, rfl, hxy ab (by simpa using World.block_lt_of_cell? w _ (h 0 (by omega))) hb, h⟩
theorem LX.lies {w : World} {X : Nat → Prop} {ao : Option Addr} {ss : List ByteArray} {base : Nat} (h : LX w X ao ss) (hx : ∀ b, X b → base ≤ b) : Lies w base ao ss := by
  rcases h with h | ⟨ab, o, rfl, hb, h⟩
  · exact .inl h
  · exact .inr ⟨ab, o, rfl, hx _ hb, h⟩

/-- the cells of a value; all that is behind them lies in blocks of X -/
inductive VX (w : World) (X : Nat → Prop) : VT → List Value → Prop where
  | mk {s n : Int} {t : ByteArray} {ns : List ByteArray} {ks : List VT} {an ak : Option Addr} {cn ck : Nat} (CS : Nat → List Value)
    (hn : LX w X an ns) (hp : ks.length = 0 ∨ ∃ b o, ak = some ⟨b, o, none⟩ ∧ X b ∧ ∀ j, j < ks.length → Five w b (o + j * 5) (CS j))
    (hk : ∀ j k, ks[j]? = some k → VX w X k (CS j)) (hcn : ns.length ≤ cn) (hck : ks.length ≤ ck) (ht : t.size ≤ 9223372036854775807) (hcl : ns.length ≤ 9223372036854775807) (hkl : ks.length ≤ 9223372036854775807) (hsl : ∀ s ∈ ns, s.size ≤ 9223372036854775807)
    (hs1 : -9223372036854775808 ≤ s) (hs2 : s ≤ 9223372036854775807) (hn1 : -9223372036854775808 ≤ n) (hn2 : n ≤ 9223372036854775807) :
    VX w X (.node s n t ns ks) [.int .i64 s, .int .i64 n, .string t, .slice an ns.length cn, .slice ak ks.length ck]

theorem VX.kept {w w' : World} {X : Nat → Prop} {T : VT} {cs : List Value} (h : VX w X T cs) (hg : Kept w w' X) : VX w' X T cs := by
  induction h with
  | mk CS hn hp hk hcn hck ht hcl hkl hsl hs1 hs2 hn1 hn2 ih =>
    refine .mk CS (hn.kept hg) ?_ ih hcn hck ht hcl hkl hsl hs1 hs2 hn1 hn2
    rcases hp with h | ⟨b, o, rfl, hb, h⟩
    · exact .inl h
    · refine .inr ⟨b, o, rfl, hb, fun j hj => ?_⟩
      obtain ⟨c0, c1, c2, c3, c4, e, h0, h1, h2, h3, h4⟩ := h j hj
      exact ⟨c0, c1, c2, c3, c4, e, hg.cell hb h0, hg.cell hb h1, hg.cell hb h2, hg.cell hb h3, hg.cell hb h4⟩
theorem VX.mono {w : World} {X Y : Nat → Prop} {T : VT} {cs : List Value} (h : VX w X T cs) (hxy : ∀ b, b < w.heap.size → X b → Y b) : VX w Y T cs := by
  induction h with
  | @mk s n t ns ks an ak cn ck CS hn hp hk hcn hck ht hcl hkl hsl hs1 hs2 hn1 hn2 ih =>
    refine .mk CS (hn.mono hxy) ?_ ih hcn hck ht hcl hkl hsl hs1 hs2 hn1 hn2
    rcases hp with h | ⟨b, o, rfl, hb, h⟩
    · exact .inl h
    · by_cases h0 : ks.length = 0
      · exact .inl h0
      · refine .inr ⟨b, o, rfl, hxy b ?_ hb, h⟩
        obtain ⟨c0, c1, c2, c3, c4, e, h0, _⟩ := h 0 (by omega)
        simpa using World.block_lt_of_cell? w _ h0
theorem VX.vin {w : World} {X : Nat → Prop} {T : VT} {cs : List Value} {base : Nat} (h : VX w X T cs) (hx : ∀ b, X b → base ≤ b) : VIn w base T cs := by
  induction h with
  | @mk s n t ns ks an ak cn ck CS hn hp hk hcn hck ht hcl hkl hsl hs1 hs2 hn1 hn2 ih =>
    refine .mk CS (hn.lies hx) ?_ ih hcn hck ht hcl hkl hsl hs1 hs2 hn1 hn2
    rcases hp with h | ⟨b, o, rfl, hb, h⟩
    · exact .inl h
    · exact .inr ⟨b, o, rfl, hx b hb, h⟩
theorem VX.five {w : World} {X : Nat → Prop} {T : VT} {cs : List Value} (h : VX w X T cs) : ∃ c0 c1 c2 c3 c4, cs = [c0, c1, c2, c3, c4] ∧ ∀ v ∈ cs, v.oneCell' = true := by
  cases h with
  | mk CS => exact ⟨_, _, _, _, _, rfl, fun v hv => by simp at hv; rcases hv with rfl | rfl | rfl | rfl | rfl <;> rfl⟩
theorem VX.len {w : World} {X : Nat → Prop} {T : VT} {cs : List Value} (h : VX w X T cs) : cs.length = 5 := by
  cases h with
  | mk CS => rfl
/-- a value with nothing behind it -/
theorem VX.leaf (w : World) (X : Nat → Prop) (s n : Int) (t : ByteArray) (ht : t.size ≤ 9223372036854775807) (hs1 : -9223372036854775808 ≤ s) (hs2 : s ≤ 9223372036854775807) (hn1 : -9223372036854775808 ≤ n) (hn2 : n ≤ 9223372036854775807) :
    VX w X (.node s n t [] []) [.int .i64 s, .int .i64 n, .string t, .slice none 0 0, .slice none 0 0] :=
  .mk (fun _ => []) (.inl rfl) (.inl rfl) (fun j k h => by simp at h) (Nat.zero_le _) (Nat.zero_le _) ht (by simp) (by simp) (fun s h => by simp at h) hs1 hs2 hn1 hn2

/-- the slice v holds n values, of the cells xs, in a block of the call's own (from base on), all of whose cells may be written; or it is nil and holds nothing -/
def RowK (w : World) (base : Nat) (v : Value) (n : Nat) (xs : List Value) : Prop :=
  xs.length = n * 5 ∧ ((v = .slice none 0 0 ∧ n = 0) ∨
  ∃ g cap, v = .slice (some ⟨g, 0, none⟩) n cap ∧ base ≤ g ∧ g < w.heap.size ∧ n ≤ cap ∧ (∀ j, j < n * 5 → w.cell? ⟨g, j, none⟩ = xs[j]?) ∧ (∀ j, j < cap * 5 → (w.cell? ⟨g, j, none⟩).isSome = true ∧ w.frozen? ⟨g, j, none⟩ = false))
theorem RowK.nil (w : World) (base : Nat) : RowK w base (.slice none 0 0) 0 [] := ⟨rfl, .inl ⟨rfl, rfl⟩⟩
theorem RowK.lt {w : World} {base : Nat} {v : Value} {n : Nat} {xs : List Value} (h : RowK w base v n xs) : ∀ k, v.ownBlock = some k → base ≤ k ∧ k < w.heap.size := by
  intro k hk
  rcases h.2 with ⟨rfl, _⟩ | ⟨g, cap, rfl, hb, hl, _⟩
  · simp [Value.ownBlock] at hk
  · simp [Value.ownBlock] at hk; subst hk; exact ⟨hb, hl⟩
theorem RowK.kept {w w' : World} {base : Nat} {v : Value} {n : Nat} {xs : List Value} {row : Option Nat} (h : RowK w base v n xs) (hg : w.grownBy w' row) (hne : ∀ k, v.ownBlock = some k → some k ≠ row) : RowK w' base v n xs := by
  refine ⟨h.1, ?_⟩
  rcases h.2 with h | ⟨g, cap, rfl, hb, hl, hn, hc, hf⟩
  · exact .inl h
  · have hbl := hg.block g hl (hne g rfl)
    refine .inr ⟨g, cap, rfl, hb, Nat.lt_of_lt_of_le hl hg.size, hn, fun j hj => ?_, fun j hj => ?_⟩
    · rw [World.cell?_of_block (w := w) (a := ⟨g, j, none⟩) hbl]; exact hc j hj
    · rw [World.cell?_of_block (w := w) (a := ⟨g, j, none⟩) hbl, World.frozen?_of_block (w := w) (a := ⟨g, j, none⟩) hbl]; exact hf j hj
theorem RowK.base {w : World} {base b' : Nat} {v : Value} {n : Nat} {xs : List Value} (h : RowK w base v n xs) (hb : b' ≤ base) : RowK w b' v n xs := by
  refine ⟨h.1, ?_⟩
  rcases h.2 with h | ⟨g, cap, rfl, hb2, r⟩
  · exact .inl h
  · exact .inr ⟨g, cap, rfl, by omega, r⟩
theorem RowK.of_owns {w : World} {base : Nat} {e : TypeId} {v : Value} {n : Nat} {xs : List Value} (h : w.ownsRow base e 5 v n xs) : RowK w base v n xs := by
  obtain ⟨hl, h | ⟨g, cap, cur, rfl, hb, hh, hn, _, hs, ht⟩⟩ := h
  · exact ⟨hl, .inl h⟩
  · refine ⟨hl, .inr ⟨g, cap, rfl, hb, lt_of_block hh, hn, fun j hj => ?_, fun j hj => ?_⟩⟩
    · rw [cell_of_row w g j cur e (0, 0) hh, ← ht, List.getElem?_take, if_pos (by omega)]; simp
    · rw [cell_of_row w g j cur e (0, 0) hh]
      have : j < cur.size := by omega
      exact ⟨by simp [this], by simp [World.frozen?, hh]⟩
theorem RowK.lit (w : World) (e : TypeId) (n : Nat) (L : List Value) (hL : L.length = n * 5) : RowK (w.alloc (.cells L.toArray e)) w.heap.size (.slice (some ⟨w.heap.size, 0, none⟩) n n) n L := by
  have hh : Blk (w.alloc (.cells L.toArray e)) w.heap.size e L := Blk.new w e L
  refine ⟨hL, .inr ⟨w.heap.size, n, rfl, Nat.le_refl _, by simp, Nat.le_refl _, fun j hj => ?_, fun j hj => ⟨?_, hh.frozen j⟩⟩⟩
  · rw [List.getElem?_eq_getElem (by omega)]; exact hh.cell (List.getElem?_eq_getElem (by omega))
  · rw [hh.cell (List.getElem?_eq_getElem (by omega))]; rfl

/-- what an append does to a row of values -/
theorem RowK.append {P : Program} (w : World) (t ty e : TypeId) (i : TypeInfo) (z : Value) (bytes : Nat) (h1 : P.underlying t = some (.slice e)) (h2 : P.info? e = some i) (h3 : i.zero = some z) (h4 : i.size = 5) (h5 : i.bytes = bytes) (h6 : z.cells.size = 5)
    (base : Nat) (v : Value) (n : Nat) (xs : List Value) (hrow : RowK w base v n xs) (ad : Addr) (m c : Nat) (news : List Value) (hn : news.length = m * 5) (hc : ∀ j u, news[j]? = some u → w.cell? (ad.add j) = some u) (h1c : ∀ u ∈ news, u.oneCell' = true)
    (b1 : n + m ≤ maxLen) (b2 : (n + m) * bytes ≤ 140737488355328) (hb : base ≤ w.heap.size) :
    ∃ v' w', (Builtin.append_ #[t, t] ty #[v, .slice (some ad) m c]).run P w = .ok v' w' ∧ RowK w' base v' (n + m) (xs ++ news) ∧ w.grownBy w' v.ownBlock ∧ (∀ q, v'.ownBlock = some q → v.ownBlock = some q ∨ w.heap.size ≤ q) := by
  obtain ⟨hxl, ⟨rfl, rfl⟩ | ⟨g, cap, rfl, hbg, hl, hcap, hcell, hfree⟩⟩ := hrow
  · have : xs = [] := List.eq_nil_of_length_eq_zero (by omega)
    subst this
    obtain ⟨v', w', hrun, r1, r2, _⟩ := run_append_own (P := P) w w.heap.size t ty e i z 5 bytes h1 h2 h3 h4 h5 h6 (by decide) (.slice none 0 0) 0 [] (World.ownsRow_nil w _ e 5) ad m c news hn hc h1c b1 b2 (Nat.le_refl _)
    exact ⟨v', w', hrun, (RowK.of_owns r1).base hb, r2, fun q hq => .inr ((RowK.of_owns r1).lt q hq).1⟩
  · by_cases hr : n + m ≤ cap
    · have hrun := run_append_room_cells (P := P) w t ty e i h1 h2 g 0 n cap ad m c news (by rw [h4]; omega) hc h1c hr
        (fun j hj => by rw [h4]; simpa using (hfree (n * 5 + j) (by omega)).1) (fun j hj => by rw [h4]; simpa using (hfree (n * 5 + j) (by omega)).2)
      rw [h4] at hrun
      simp only [Nat.zero_add] at hrun
      refine ⟨_, _, hrun, ⟨by simp [hxl, hn]; omega, .inr ⟨g, cap, rfl, hbg, ?_, hr, fun j hj => ?_, fun j hj => ?_⟩⟩, ?_, fun q hq => .inl hq⟩
      · have := (grown_setCells0 w g (n * 5) news).size
        omega
      · by_cases hj1 : j < n * 5
        · rw [World.cell?_setCells_out g news (n * 5) w ⟨g, j, none⟩ (fun _ _ => Or.inl hj1), hcell j hj1, List.getElem?_append_left (by omega)]
        · have := World.cell?_setCells_in g news (n * 5) w (fun q hq => (hfree (n * 5 + q) (by omega)).1) (j - n * 5) (by omega)
          rw [show n * 5 + (j - n * 5) = j from by omega] at this
          rw [this, List.getElem?_append_right (by omega), show j - xs.length = j - n * 5 from by omega, List.getElem?_eq_getElem]
      · rw [World.frozen?_setCells]
        exact ⟨World.isSome_setCells g news (n * 5) w _ (hfree j hj).1, (hfree j hj).2⟩
      · exact grown_setCells0 w g (n * 5) news
    · obtain ⟨v', w', hrun, r1, r2⟩ := run_append_arg_grows (P := P) w t ty e i z 5 bytes h1 h2 h3 h4 h5 h6 (by decide) ⟨g, 0, none⟩ n cap xs hxl (fun j u hj => by
        rw [Addr.add_mid, Nat.zero_add, hcell j (by have := (List.getElem?_eq_some_iff.1 hj).1; omega), hj]) ad m c news hn hc (by omega) b1 b2
      exact ⟨v', w', hrun, (RowK.of_owns r1).base hb, grown_widen r2, fun q hq => .inr ((RowK.of_owns r1).lt q hq).1⟩

theorem wpList_append_rowK {P : Program} {w : World} {ops : Array Oper} {rest : List Oper} {o : Oper} {a : Act} {Q : Exit → Act → World → Prop} (hgd : o.guard = none) (s x : Operand) (t : TypeId)
    (ho : o.op = .call { callee := .builtin .append, args := #[s, x], argTypes := #[t, t] }) (e : TypeId) (i : TypeInfo) (z : Value) (bytes : Nat) (h1 : P.underlying t = some (.slice e)) (h2 : P.info? e = some i) (h3 : i.zero = some z) (h4 : i.size = 5) (h5 : i.bytes = bytes) (h6 : z.cells.size = 5)
    (base : Nat) (v : Value) (n : Nat) (xs : List Value) (hs : a.eval s = v) (hrow : RowK w base v n xs) (ad : Addr) (m c : Nat) (news : List Value) (hx : a.eval x = .slice (some ad) m c) (hn : news.length = m * 5) (hc : ∀ j u, news[j]? = some u → w.cell? (ad.add j) = some u) (h1c : ∀ u ∈ news, u.oneCell' = true)
    (b1 : n + m ≤ maxLen) (b2 : (n + m) * bytes ≤ 140737488355328) (hb : base ≤ w.heap.size)
    (h : ∀ v' w', Hid (RowK w' base v' (n + m) (xs ++ news)) → Hid (w.grownBy w' v.ownBlock) → Hid (∀ q, v'.ownBlock = some q → v.ownBlock = some q ∨ w.heap.size ≤ q) → wpList P ops Q rest (a.put o.dst v') w') : wpList P ops Q (o :: rest) a w := by
  refine wpList_plain hgd fun K hK => ?_
  obtain ⟨v', w', hrun, r1, r2, r3⟩ := RowK.append (P := P) w t o.type e i z bytes h1 h2 h3 h4 h5 h6 base v n xs hrow ad m c news hn hc h1c b1 b2 hb
  unfold Oper.wp
  simp [execOp, ho, resolve, invoke, builtin, hs, hx, hrun, Result.andThen]
  exact hK _ _ (h v' w' r1 r2 r3)

theorem step_append_rowK {P : Program} {w : World} {ops : Array Oper} {o : Oper} {a : Act} {K : Act → World → Prop} {Q : Exit → Act → World → Prop} {E : Prop} (hgd : o.guard = none) (s x : Operand) (t : TypeId)
    (ho : o.op = .call { callee := .builtin .append, args := #[s, x], argTypes := #[t, t] }) (e : TypeId) (i : TypeInfo) (z : Value) (bytes : Nat) (h1 : P.underlying t = some (.slice e)) (h2 : P.info? e = some i) (h3 : i.zero = some z) (h4 : i.size = 5) (h5 : i.bytes = bytes) (h6 : z.cells.size = 5)
    (base : Nat) (v : Value) (n : Nat) (xs : List Value) (hs : a.eval s = v) (hrow : RowK w base v n xs) (ad : Addr) (m c : Nat) (news : List Value) (hx : a.eval x = .slice (some ad) m c) (hn : news.length = m * 5) (hc : ∀ j u, news[j]? = some u → w.cell? (ad.add j) = some u) (h1c : ∀ u ∈ news, u.oneCell' = true)
    (b1 : n + m ≤ maxLen) (b2 : (n + m) * bytes ≤ 140737488355328) (hb : base ≤ w.heap.size)
    (h : ∀ v' w', Hid (RowK w' base v' (n + m) (xs ++ news)) → Hid (w.grownBy w' v.ownBlock) → Hid (∀ q, v'.ownBlock = some q → v.ownBlock = some q ∨ w.heap.size ≤ q) → K (a.put o.dst v') w') :
    if Region.wanted o (yielded ops a.tmps) = true then Oper.wp P o a w K Q else E := by
  have hw : Region.wanted o (yielded ops a.tmps) = true := by simp [Region.wanted, hgd]
  rw [if_pos hw]
  obtain ⟨v', w', hrun, r1, r2, r3⟩ := RowK.append (P := P) w t o.type e i z bytes h1 h2 h3 h4 h5 h6 base v n xs hrow ad m c news hn hc h1c b1 b2 hb
  unfold Oper.wp
  simp [execOp, ho, resolve, invoke, builtin, hs, hx, hrun, Result.andThen]
  exact h v' w' r1 r2 r3

end Go.Proofs.YtgmigloafcejdaaGreatDoor

namespace Go.Proofs.YtgmigloafcejdaaGreatDoor
open Go.RowKit

theorem i64_xor_nat (a b : Nat) (ha : a < 9223372036854775808) (hb : b < 9223372036854775808) : bits .xor .i64 (a : Int) (b : Int) = ((a ^^^ b : Nat) : Int) := by
  have hx : a ^^^ b < 2 ^ 63 := Nat.xor_lt_two_pow (by omega) (by omega)
  have h1 : (BitVec.ofInt 64 (a : Int)).toNat = a := by
    rw [BitVec.ofInt_natCast, BitVec.toNat_ofNat]; exact Nat.mod_eq_of_lt (by omega)
  have h2 : (BitVec.ofInt 64 (b : Int)).toNat = b := by
    rw [BitVec.ofInt_natCast, BitVec.toNat_ofNat]; exact Nat.mod_eq_of_lt (by omega)
  show IntKind.i64.wrap ((BitVec.ofInt 64 (a : Int) ^^^ BitVec.ofInt 64 (b : Int)).toNat : Int) = _
  rw [BitVec.toNat_xor, h1, h2, IntKind.wrap_i64]
  omega

/-- the bytes that are read: in another block than the reader -/
def Code8 (w : World) (rb : Nat) (ao : Option Addr) (n : Nat) : Prop :=
  n ≤ 2000 ∧ (n = 0 ∨ ∃ ab o, ao = some ⟨ab, o, none⟩ ∧ ab < rb ∧ ∀ j, j < n → ∃ x : Int, 0 ≤ x ∧ x < 256 ∧ w.cell? ⟨ab, o + j, none⟩ = some (.int .u8 x))
theorem Code8.kept {w w' : World} {rb : Nat} {ao : Option Addr} {n : Nat} {row : Option Nat} (h : Code8 w rb ao n) (hg : w.grownBy w' row) (hr : ∀ k, row = some k → rb ≤ k) : Code8 w' rb ao n := by
  obtain ⟨hn, h | ⟨ab, o, rfl, hne, hc⟩⟩ := h
  · exact ⟨hn, .inl h⟩
  · refine ⟨hn, .inr ⟨ab, o, rfl, hne, fun j hj => ?_⟩⟩
    obtain ⟨x, h0, h1, hx⟩ := hc j hj
    exact ⟨x, h0, h1, hg.cell hx (fun e => by have := hr ab e.symm; omega)⟩
/-- the reader: it stands at place p -/
def Rd (w : World) (rb : Nat) (ao : Option Addr) (n cap p : Nat) : Prop := Blk w rb 82 [.slice ao n cap, .int .i64 (p : Int)] ∧ Code8 w rb ao n
theorem Rd.kept {w w' : World} {rb : Nat} {ao : Option Addr} {n cap p : Nat} {row : Option Nat} (h : Rd w rb ao n cap p) (hg : w.grownBy w' row) (hr : ∀ k, row = some k → rb < k) : Rd w' rb ao n cap p :=
  ⟨h.1.kept hg (fun e => by have := hr rb e.symm; omega), h.2.kept hg (fun k hk => Nat.le_of_lt (hr k hk))⟩
theorem Rd.lt {w : World} {rb : Nat} {ao : Option Addr} {n cap p : Nat} (h : Rd w rb ao n cap p) : rb < w.heap.size := h.1.lt

set_option maxRecDepth 100000 in
set_option maxHeartbeats 1000000 in
theorem pick_any (w : World) (rb : Nat) (ao : Option Addr) (n cap p : Nat) (hr : Rd w rb ao n cap p) (hp : p < 1000000) (N : Int) (hN1 : 1 ≤ N) (hN2 : N ≤ 1000000) :
    Calls Tryz.prog 25 #[.pointer (some ⟨rb, 0, none⟩), .int .i64 N] w fun e w' => ∃ x : Int, e = .returned (.int .i64 x) ∧ 0 ≤ x ∧ x < N ∧ Rd w' rb ao n cap (p + 1) ∧ w.grownBy w' (some rb) := by
  obtain ⟨hb, hc⟩ := hr
  have c0 := hb.cell (j := 0) rfl
  have c1 := hb.cell (j := 1) rfl
  have f1 := hb.frozen 1
  have HB := Lib.hid hb
  have HC := Lib.hid hc
  have hn2 : n ≤ 2000 := hc.1
  clear hb hc
  go_enter Tryz.func25, Tryz.ntmps25
  go_upto_region 2 with (fail)
  refine wp_letter (fun wx => Blk wx rb 82 [.slice ao n cap, .int .i64 ((p : Int) + 1)] ∧ w.grownBy wx (some rb)) ⟨HB.out.set 1 (.int .i64 ((p : Int) + 1)), grown_set (grown_refl _ _) 1 _⟩ ?_
  clear c0 c1 f1
  rintro wx ⟨hb, hg⟩
  have c0 := hb.cell (j := 0) rfl
  have c1 := hb.cell (j := 1) rfl
  have hc := HC.out.kept hg (fun k hk => by cases hk; exact Nat.le_refl _)
  have HRD := Lib.hid (show Rd wx rb ao n cap (p + 1) from ⟨hb, hc⟩)
  have HG := Lib.hid hg
  clear HB HC hb hg
  obtain ⟨_, rfl | ⟨ab, o, rfl, hne, hcc⟩⟩ := hc
  · go_wp2
    go_ret
    exact ⟨0, rfl, by omega, by omega, HRD.out, HG.out⟩
  by_cases hn0 : n = 0
  · subst hn0
    go_wp2
    go_ret
    exact ⟨0, rfl, by omega, by omega, HRD.out, HG.out⟩
  have hn1 : 0 < n := by omega
  have hnb : ((n : Int) == 0) = false := by simp; omega
  have hNb : decide (N < 1) = false := by simp; omega
  by_cases hpn : p < n
  · obtain ⟨x, hx0, hx1, d1⟩ := hcc p hpn
    clear hcc
    have hpI : (p : Int) < (n : Int) := by omega
    go_wp2
    go_ret
    exact ⟨x % N, rfl, Int.emod_nonneg _ (by omega), Int.emod_lt_of_pos _ (by omega), HRD.out, HG.out⟩
  · have hpI : (n : Int) ≤ (p : Int) := by omega
    have hpd : decide ((p : Int) < (n : Int)) = false := by simp; omega
    obtain ⟨q1, hq1⟩ : ∃ q, q = p % n := ⟨_, rfl⟩
    obtain ⟨q2, hq2⟩ : ∃ q, q = (p * 7 + 3) % n := ⟨_, rfl⟩
    obtain ⟨d, hd⟩ : ∃ d, d = p / n := ⟨_, rfl⟩
    have l1 : q1 < n := by rw [hq1]; exact Nat.mod_lt _ hn1
    have l2 : q2 < n := by rw [hq2]; exact Nat.mod_lt _ hn1
    have ld : d ≤ p := by rw [hd]; exact Nat.div_le_self _ _
    have i1 : (q1 : Int) < (n : Int) := by omega
    have i2 : (q2 : Int) < (n : Int) := by omega
    obtain ⟨x1, hx0, hx1, d1⟩ := hcc q1 l1
    obtain ⟨x2, hy0, hy1, d2⟩ := hcc q2 l2
    have e1 : (p : Int).tmod (n : Int) = (q1 : Int) := by rw [Int.tmod_eq_emod_of_nonneg (by omega), hq1]; simp
    have e0 : IntKind.i64.wrap ((p : Int) * 7) = (p : Int) * 7 := by rw [IntKind.wrap_i64]; omega
    have e0' : IntKind.i64.wrap ((p : Int) * 7 + 3) = (p : Int) * 7 + 3 := by rw [IntKind.wrap_i64]; omega
    have e2 : ((p : Int) * 7 + 3).tmod (n : Int) = (q2 : Int) := by rw [Int.tmod_eq_emod_of_nonneg (by omega), hq2]; simp
    have e3 : (p : Int).tdiv (n : Int) = (d : Int) := by rw [Int.tdiv_eq_ediv_of_nonneg (by omega), hd]; simp
    have e4 : IntKind.i64.wrap (x1 * 131) = x1 * 131 := by rw [IntKind.wrap_i64]; omega
    have e5 : IntKind.i64.wrap (x2 * 1117) = x2 * 1117 := by rw [IntKind.wrap_i64]; omega
    have e6 : IntKind.i64.wrap (x1 * 131 + x2 * 1117) = x1 * 131 + x2 * 1117 := by rw [IntKind.wrap_i64]; omega
    have e7 : IntKind.i64.wrap ((p : Int) * 29) = (p : Int) * 29 := by rw [IntKind.wrap_i64]; omega
    have e8 : IntKind.i64.wrap (x1 * 131 + x2 * 1117 + (p : Int) * 29) = x1 * 131 + x2 * 1117 + (p : Int) * 29 := by rw [IntKind.wrap_i64]; omega
    have e9 : IntKind.i64.wrap ((d : Int) * 53) = (d : Int) * 53 := by rw [IntKind.wrap_i64]; omega
    obtain ⟨X, hX⟩ : ∃ X : Nat, (X : Int) = x1 * 131 + x2 * 1117 + (p : Int) * 29 + (d : Int) * 53 := ⟨(x1 * 131 + x2 * 1117 + (p : Int) * 29 + (d : Int) * 53).toNat, by omega⟩
    have eA : IntKind.i64.wrap (x1 * 131 + x2 * 1117 + (p : Int) * 29 + (d : Int) * 53) = (X : Int) := by rw [IntKind.wrap_i64]; omega
    have hX2 : X < 1000000000 := by omega
    have wc : IntKind.i64.wrap x1 = x1 := by rw [IntKind.wrap_i64]; omega
    have wd : IntKind.i64.wrap x2 = x2 := by rw [IntKind.wrap_i64]; omega
    have HX := Lib.hid hX
    have HQ := Lib.hid (And.intro hq1 (And.intro hq2 hd))
    clear hcc hX hq1 hq2 hd
    go_wp2
    go_quiet (fail)
    clear e0 e0' e1 e2 e3 e4 e5 e6 e7 e8 e9 eA wc wd d1 d2 c0 c1
    obtain ⟨Y, hY⟩ : ∃ Y, Y = X ^^^ (X / 64) := ⟨_, rfl⟩
    have hY2 : Y < 1073741824 := by rw [hY]; exact Nat.xor_lt_two_pow (n := 30) (by omega) (by omega)
    have eX : bits .xor .i64 (X : Int) ((X : Int) / 64) = (Y : Int) := by
      rw [hY, show ((X : Int) / 64) = ((X / 64 : Nat) : Int) from by omega]
      exact i64_xor_nat X (X / 64) (by omega) (by omega)
    clear hY
    go_wp2
    go_ret
    exact ⟨(Y : Int) % N, rfl, Int.emod_nonneg _ (by omega), Int.emod_lt_of_pos _ (by omega), HRD.out, grown_drewN HG.out _⟩

/-- the reader is opened -/
theorem open_any (w : World) (ao : Option Addr) (n cap : Nat) (hn : n ≤ 1048576) (hcap : n ≤ cap)
    (hc : n = 0 ∨ ∃ ab o, ao = some ⟨ab, o, none⟩ ∧ ∀ j, j < n → ∃ x : Int, 0 ≤ x ∧ x < 256 ∧ w.cell? ⟨ab, o + j, none⟩ = some (.int .u8 x)) :
    Calls Tryz.prog 24 #[.slice ao n cap] w fun e w' => e = .returned (.pointer (some ⟨w.heap.size, 0, none⟩)) ∧ (∃ n', Rd w' w.heap.size ao n' cap 0) ∧ w.grownBy w' none := by
  have hrd : ∀ n', n' ≤ n → n' ≤ 2000 → Rd (w.alloc (.cells #[.slice ao n' cap, .int .i64 0] 82)) w.heap.size ao n' cap 0 := fun n' h1 h2 => by
    refine ⟨Blk.new w 82 [.slice ao n' cap, .int .i64 0], h2, ?_⟩
    rcases hc with h0 | ⟨ab, o, rfl, hc⟩
    · exact .inl (by omega)
    · by_cases h0 : n' = 0
      · exact .inl h0
      refine .inr ⟨ab, o, rfl, ?_, fun j hj => ?_⟩
      · obtain ⟨x, _, _, hx⟩ := hc 0 (by omega)
        have := World.block_lt_of_cell? w _ hx
        simp at this
        omega
      · obtain ⟨x, hx0, hx1, hx⟩ := hc j (by omega)
        exact ⟨x, hx0, hx1, (World.grownBy_alloc w _ none).cell hx (by simp)⟩
  by_cases hb : (n : Int) > 2000
  · obtain ⟨ab, o, rfl, hcc⟩ : ∃ ab o, ao = some ⟨ab, o, none⟩ ∧ True := by
      rcases hc with h0 | ⟨ab, o, rfl, hc⟩
      · omega
      · exact ⟨ab, o, rfl, trivial⟩
    have HR := Lib.hid (hrd 2000 (by omega) (by omega))
    have hcI : (2000 : Int) ≤ (cap : Int) := by omega
    clear hrd hc
    go_enter Tryz.func24, Tryz.ntmps24
    go_wp2
    go_ret
    exact ⟨rfl, ⟨2000, HR.out⟩, World.grownBy_alloc w _ none⟩
  · have hb' : (n : Int) ≤ 2000 := by omega
    have HR := Lib.hid (hrd n (by omega) (by omega))
    clear hrd hc
    go_enter Tryz.func24, Tryz.ntmps24
    go_wp2
    go_ret
    exact ⟨rfl, ⟨n, HR.out⟩, World.grownBy_alloc w _ none⟩



set_option maxRecDepth 100000 in
set_option maxHeartbeats 1000000 in
/-- one text of a list -/
theorem of_any (w : World) (rb : Nat) (ao : Option Addr) (n cap p : Nat) (hr : Rd w rb ao n cap p) (hp : p < 1000000) (b m c : Nat) (hm0 : 1 ≤ m) (hm : m ≤ 100) (L : Nat → ByteArray) (hb : b ≠ rb) (hL : ∀ j, j < m → w.cell? ⟨b, j, none⟩ = some (.string (L j))) :
    Calls Tryz.prog 26 #[.pointer (some ⟨rb, 0, none⟩), .slice (some ⟨b, 0, none⟩) m c] w fun e w' => ∃ j, j < m ∧ e = .returned (.string (L j)) ∧ Rd w' rb ao n cap (p + 1) ∧ w.grownBy w' (some rb) := by
  have HP := Lib.hid (pick_any w rb ao n cap p hr hp (m : Int) (by omega) (by omega))
  have HL := Lib.hid hL
  clear hr hL
  go_enter Tryz.func26, Tryz.ntmps26
  go_wp2_with fail
  refine HP.out.mono ?_
  rintro e w1 ⟨x, rfl, hx0, hx1, hr1, hg1⟩
  obtain ⟨j, rfl⟩ := Int.eq_ofNat_of_zero_le hx0
  have hj : j < m := by omega
  have d0 := hg1.cell (HL.out j hj) (by simpa using hb)
  have HR := Lib.hid hr1
  have HG := Lib.hid hg1
  clear HP HL hr1 hg1
  obtain ⟨t, ht⟩ : ∃ t, L j = t := ⟨_, rfl⟩
  rw [ht] at d0
  have HT := Lib.hid ht
  clear ht
  have HJ := Lib.hid hj
  have hjI : (j : Int) < m := by omega
  go_wp2
  go_ret
  exact ⟨j, HJ.out, by rw [HT.out]; rfl, HR.out, HG.out⟩

/-- five cells are written -/
def set5 (w : World) (r : Nat) (c0 c1 c2 c3 c4 : Value) : World := ((((w.setCell ⟨r, 0, none⟩ c0).setCell ⟨r, 1, none⟩ c1).setCell ⟨r, 2, none⟩ c2).setCell ⟨r, 3, none⟩ c3).setCell ⟨r, 4, none⟩ c4
theorem set5_grown (w : World) (r : Nat) (c0 c1 c2 c3 c4 : Value) : w.grownBy (set5 w r c0 c1 c2 c3 c4) (some r) := grown_set (grown_set (grown_set (grown_set (grown_set (grown_refl w (some r)) 0 c0) 1 c1) 2 c2) 3 c3) 4 c4
theorem set5_blk {w : World} {r : Nat} {t : TypeId} {o0 o1 o2 o3 o4 : Value} (h : Blk w r t [o0, o1, o2, o3, o4]) (c0 c1 c2 c3 c4 : Value) : Blk (set5 w r c0 c1 c2 c3 c4) r t [c0, c1, c2, c3, c4] := ((((h.set 0 c0).set 1 c1).set 2 c2).set 3 c3).set 4 c4
theorem results_five {P : Program} {fn : Func} {p : Tmp} {ty : TypeId} (h : fn.results = #[.cell p ty]) (tmps : Array Value) (w : World) (g : Nat) (t : TypeId) (L : List Value) (d : TypeDesc)
    (hg : Blk w g t L) (hu : P.underlying ty = some d) (hd : (match d with | .struct _ | .array _ _ => true | _ => false) = true) (hi : (P.info? ty).map (·.size) = some L.length)
    (hp : tmps[p]?.getD undef = .pointer (some ⟨g, 0, none⟩)) :
    (results fn tmps).run P w = .ok (.agg L.toArray) w := by
  simp [results, h, hp, asAddr, run_loadVar_row w g t ty L.toArray (0, 0) d hg hu hd (by simpa using hi)]
theorem info26s : (Tryz.prog.info? 27).map (·.size) = some 5 := by kernel_rfl

set_option maxRecDepth 100000 in
set_option maxHeartbeats 1000000 in
theorem unknown_any (w : World) : Calls Tryz.prog 54 #[] w fun e w' => e = .returned (.agg #[.int .i64 7, .int .i64 0, .string ⟨#[]⟩, .slice none 0 0, .slice none 0 0]) ∧ w.grownBy w' none := by
  have HB := Lib.hid (Blk.new w 27 [.int .i64 7, .int .i64 0, .string ⟨#[]⟩, .slice none 0 0, .slice none 0 0])
  go_enter Tryz.func54, Tryz.ntmps54
  go_wp2
  exact ⟨rfl, _, results_five Tryz.results54 _ _ w.heap.size 27 _ _ HB.out Tryz.underlying27 rfl info26s rfl, rfl, grown_alloc (grown_refl w none) _⟩

end Go.Proofs.YtgmigloafcejdaaGreatDoor
