/- The program's nodes, and how they lie in memory. -/
import Derived.Test.YtgmigloafcejdaaGreatDoorJ2
namespace Go.Proofs.YtgmigloafcejdaaGreatDoor
open Go.RowKit

theorem lt_of_cellQ {w : World} {a : Addr} {v : Value} (h : w.cell? a = some v) : a.block < w.heap.size := by
  rcases Nat.lt_or_ge a.block w.heap.size with h1 | h1
  · exact h1
  · simp [World.cell?, Array.getElem?_eq_none h1] at h

/-- a list of texts lies in a block that is let -/
def LiesA (w : World) (A : Nat → Prop) (ao : Option Addr) (ss : List ByteArray) : Prop := ss.length = 0 ∨ ∃ ab o, ao = some ⟨ab, o, none⟩ ∧ A ab ∧ ∀ j, j < ss.length → w.cell? ⟨ab, o + j, none⟩ = some (.string (ss.getD j ByteArray.empty))
theorem Lies.inA {w : World} {base : Nat} {ao : Option Addr} {ss : List ByteArray} (h : Lies w base ao ss) {A : Nat → Prop} (hA : ∀ b, b < w.heap.size → A b) : LiesA w A ao ss := by
  rcases h with h | ⟨ab, o, e, _, h⟩
  · exact .inl h
  · rcases Nat.eq_zero_or_pos ss.length with h0 | h0
    · exact .inl h0
    · exact .inr ⟨ab, o, e, hA ab (lt_of_cellQ (h 0 h0)), h⟩
theorem LiesA.kept {w w' : World} {A : Nat → Prop} {ao : Option Addr} {ss : List ByteArray} {row : Option Nat} (h : LiesA w A ao ss) (hg : w.grownBy w' row) (hr : ∀ q, row = some q → ¬ A q) : LiesA w' A ao ss := by
  rcases h with h | ⟨ab, o, e, hA, h⟩
  · exact .inl h
  · exact .inr ⟨ab, o, e, hA, fun j hj => hg.cell (h j hj) (fun e => hr ab e.symm hA)⟩
theorem LiesA.wide {w : World} {A B : Nat → Prop} {ao : Option Addr} {ss : List ByteArray} (h : LiesA w A ao ss) (hAB : ∀ b, A b → B b) : LiesA w B ao ss := by
  rcases h with h | ⟨ab, o, e, hA, h⟩
  · exact .inl h
  · exact .inr ⟨ab, o, e, hAB ab hA, h⟩

/-- nodes lie one behind the other, in a block that is let -/
def KidsA (w : World) (A : Nat → Prop) (ao : Option Addr) (n : Nat) (xs : Nat → Value) : Prop := ∃ b, ao = some ⟨b, 0, none⟩ ∧ A b ∧ ∀ j, j < n → w.cell? ⟨b, j, none⟩ = some (xs j)
theorem KidsA.kept {w w' : World} {A : Nat → Prop} {ao : Option Addr} {n : Nat} {xs : Nat → Value} {row : Option Nat} (h : KidsA w A ao n xs) (hg : w.grownBy w' row) (hr : ∀ q, row = some q → ¬ A q) : KidsA w' A ao n xs := by
  obtain ⟨b, e, hA, h⟩ := h
  exact ⟨b, e, hA, fun j hj => hg.cell (h j hj) (fun e => hr b e.symm hA)⟩
theorem KidsA.wide {w : World} {A B : Nat → Prop} {ao : Option Addr} {n : Nat} {xs : Nat → Value} (h : KidsA w A ao n xs) (hAB : ∀ b, A b → B b) : KidsA w B ao n xs := by
  obtain ⟨b, e, hA, h⟩ := h
  exact ⟨b, e, hAB b hA, h⟩

/-- a node of a value; all that is behind it lies in blocks that are let -/
inductive NIn (w : World) (A : Nat → Prop) : VT → Value → Prop where
  | null {n : Int} {t : ByteArray} {ns : List ByteArray} {ks : List VT} : NIn w A (.node 1 n t ns ks) (.iface 114 (.agg #[]))
  | bool {n : Int} {t : ByteArray} {ns : List ByteArray} {ks : List VT} : NIn w A (.node 2 n t ns ks) (.iface 97 (.bool (n == 1)))
  | int {n : Int} {t : ByteArray} {ns : List ByteArray} {ks : List VT} : NIn w A (.node 3 n t ns ks) (.iface 98 (.int .i64 n))
  | text {n : Int} {t : ByteArray} {ns : List ByteArray} {ks : List VT} : NIn w A (.node 4 n t ns ks) (.iface 99 (.string t))
  | list {n : Int} {t : ByteArray} {ns : List ByteArray} {ks : List VT} {ao : Option Addr} {c : Nat} (xs : Nat → Value) (hp : KidsA w A ao ks.length xs) (hk : ∀ (j : Nat) (k : VT), ks[j]? = some k → NIn w A k (xs j)) (hc : ks.length ≤ c) : NIn w A (.node 5 n t ns ks) (.iface 105 (.agg #[.slice ao ks.length c]))
  | obj {n : Int} {t : ByteArray} {ns : List ByteArray} {ks : List VT} {ao an : Option Addr} {c cn : Nat} (xs : Nat → Value) (hp : KidsA w A ao ks.length xs) (hk : ∀ (j : Nat) (k : VT), ks[j]? = some k → NIn w A k (xs j)) (hc : ks.length ≤ c) (hn : LiesA w A an ns) (hcn : ns.length ≤ cn) : NIn w A (.node 6 n t ns ks) (.iface 108 (.agg #[.slice ao ks.length c, .slice an ns.length cn]))
  | unknown {n : Int} {t : ByteArray} {ns : List ByteArray} {ks : List VT} : NIn w A (.node 7 n t ns ks) (.iface 146 (.agg #[]))
theorem NIn.kept {w w' : World} {A : Nat → Prop} {T : VT} {v : Value} {row : Option Nat} (h : NIn w A T v) (hg : w.grownBy w' row) (hr : ∀ q, row = some q → ¬ A q) : NIn w' A T v := by
  induction h with
  | null => exact .null
  | bool => exact .bool
  | int => exact .int
  | text => exact .text
  | list xs hp _ hc ih => exact .list xs (hp.kept hg hr) ih hc
  | obj xs hp _ hc hn hcn ih => exact .obj xs (hp.kept hg hr) ih hc (hn.kept hg hr) hcn
  | unknown => exact .unknown
theorem NIn.wide {w : World} {A B : Nat → Prop} {T : VT} {v : Value} (h : NIn w A T v) (hAB : ∀ b, A b → B b) : NIn w B T v := by
  induction h with
  | null => exact .null
  | bool => exact .bool
  | int => exact .int
  | text => exact .text
  | list xs hp _ hc ih => exact .list xs (hp.wide hAB) ih hc
  | obj xs hp _ hc hn hcn ih => exact .obj xs (hp.wide hAB) ih hc (hn.wide hAB) hcn
  | unknown => exact .unknown
theorem NIn.face {w : World} {A : Nat → Prop} {T : VT} {v : Value} (h : NIn w A T v) : ∃ ty x, v = .iface ty x := by cases h <;> exact ⟨_, _, rfl⟩
theorem NIn.one {w : World} {A : Nat → Prop} {T : VT} {v : Value} (h : NIn w A T v) : v.oneCell' = true := by cases h <;> rfl

/-- an append of one to a row that has room -/
theorem wpList_append_in {P : Program} {w : World} {ops : Array Oper} {rest : List Oper} {o : Oper} {a : Act} {Q : Exit → Act → World → Prop} (hgd : o.guard = none) (s x : Operand) (t : TypeId)
    (ho : o.op = .call { callee := .builtin .append, args := #[s, x], argTypes := #[t, t] }) (e : TypeId) (i : TypeInfo) (h1 : P.underlying t = some (.slice e)) (h2 : P.info? e = some i) (h4 : i.size = 1)
    (g k cap : Nat) (L : List Value) (tt : TypeId) (hg : Blk w g tt L) (hs : a.eval s = .slice (some ⟨g, 0, none⟩) k cap) (ad : Addr) (c : Nat) (u : Value) (hx : a.eval x = .slice (some ad) 1 c) (hc : w.cell? (ad.add 0) = some u) (h1c : u.oneCell' = true) (hk : k + 1 ≤ cap) (hL : cap ≤ L.length)
    (h : ∀ w', Hid (Blk w' g tt (L.set k u)) → Hid (w.grownBy w' (some g)) → wpList P ops Q rest (a.put o.dst (.slice (some ⟨g, 0, none⟩) (k + 1) cap)) w') : wpList P ops Q (o :: rest) a w := by
  refine wpList_plain hgd fun K hK => ?_
  have hrun := run_append_room_cells (P := P) w t o.type e i h1 h2 g 0 k cap ad 1 c [u] (by simp [h4]) (fun j v hj => by
      cases j with
      | zero => simp at hj; subst hj; exact hc
      | succ j => simp at hj) (by simpa using h1c) hk
    (fun j hj => by
      have : j = 0 := by simpa using hj
      subst this
      rw [h4, hg.cell (v := L[k]'(by omega)) (by simp)]; rfl)
    (fun j hj => hg.frozen _)
  rw [h4] at hrun
  simp only [Nat.zero_add, Nat.mul_one] at hrun
  unfold Oper.wp
  simp [execOp, ho, resolve, invoke, builtin, hs, hx, hrun, Result.andThen]
  refine hK _ _ (h _ (Lib.hid (Blk.set hg k u)) (Lib.hid (grown_set (grown_refl w (some g)) k u)))

/-- what a check of a value answers: its node, and no error; or an error -/
def NodeR (W w' : World) (N bc l p : Nat) (T : VT) (e : Ending) : Prop :=
  ∃ nv ev, e = .returned (.tuple #[nv, ev]) ∧ W.grownBy w' (some bc) ∧
    ((ev = .nilIface ∧ (Parts T (l + 1) ∧ p + count T ≤ 16) ∧ Cnt w' bc l (p + count T) ∧ NIn w' (fun b => b < N ∨ W.heap.size ≤ b) T nv) ∨
     (Fault ev ∧ ¬ (Parts T (l + 1) ∧ p + count T ≤ 16) ∧ ∃ l' p', l ≤ l' ∧ l' ≤ l + 1 ∧ p' ≤ 17 ∧ Cnt w' bc l' p'))
/-- what a check of values answers: their nodes, and no error; or an error -/
def NodesR (W w' : World) (N bc l p : Nat) (ks : List VT) (e : Ending) : Prop :=
  ∃ sv ev, e = .returned (.tuple #[sv, ev]) ∧ W.grownBy w' (some bc) ∧
    ((ev = .nilIface ∧ (ks.length ≤ 5 ∧ PartsK ks (l + 1) ∧ p + countK ks ≤ 16) ∧ Cnt w' bc l (p + countK ks) ∧ ∃ ao c xs, sv = .slice ao ks.length c ∧ ks.length ≤ c ∧ KidsA w' (fun b => b < N ∨ W.heap.size ≤ b) ao ks.length xs ∧ ∀ (j : Nat) (k : VT), ks[j]? = some k → NIn w' (fun b => b < N ∨ W.heap.size ≤ b) k (xs j)) ∨
     (sv = .slice none 0 0 ∧ Fault ev ∧ ¬ (ks.length ≤ 5 ∧ PartsK ks (l + 1) ∧ p + countK ks ≤ 16) ∧ ∃ l' p', l ≤ l' ∧ l' ≤ l + 1 ∧ p' ≤ 17 ∧ Cnt w' bc l' p'))
end Go.Proofs.YtgmigloafcejdaaGreatDoor

namespace Go.Proofs.YtgmigloafcejdaaGreatDoor
open Go.RowKit

theorem info42 : (Tryz.prog.info? 56).map (fun i => (i.zero, i.size, i.bytes)) = some (some Value.nilIface, 1, 16) := by kernel_rfl

/-- how far the check of a list has come -/
structure NSt (W0 wr : World) (N g bc L P : Nat) (ks : List VT) (k : Nat) : Prop where
  gr : W0.grownBy wr (some bc)
  cnt : Cnt wr bc L (P + countK (ks.take k))
  le : P + countK (ks.take k) ≤ 16
  parts : ∀ (j : Nat) (t : VT), ks[j]? = some t → j < k → Parts t (L + 1)
  row : ∃ xs : List Value, xs.length = k ∧ Blk wr g 56 (xs ++ List.replicate (ks.length - k) Value.nilIface) ∧ ∀ (j : Nat) (t : VT) (v : Value), ks[j]? = some t → xs[j]? = some v → NIn wr (fun b => b < N ∨ g < b) t v

theorem set_next (xs : List Value) (k n : Nat) (hk : xs.length = k) (hlt : k < n) (v : Value) : (xs ++ List.replicate (n - k) Value.nilIface).set k v = (xs ++ [v]) ++ List.replicate (n - (k + 1)) Value.nilIface := by
  obtain ⟨m, rfl⟩ : ∃ m, n = k + 1 + m := ⟨n - (k + 1), by omega⟩
  subst hk
  rw [show xs.length + 1 + m - xs.length = m + 1 from by omega, show xs.length + 1 + m - (xs.length + 1) = m from by omega]
  simp [List.replicate_succ]

set_option maxRecDepth 100000 in
set_option maxHeartbeats 2000000 in
theorem inodes_any (w : World) (base : Nat) (ks : List VT) (ak : Option Addr) (ck : Nat) (hkl : ks.length ≤ 1048576) (CS : Nat → List Value) (hp : ks.length = 0 ∨ ∃ b o, ak = some ⟨b, o, none⟩ ∧ base ≤ b ∧ ∀ j, j < ks.length → Five w b (o + j * 5) (CS j))
    (ih : ∀ (j : Nat) (k : VT), ks[j]? = some k → ∀ W : World, w.grownBy W none → ∀ bc l p : Nat, w.heap.size ≤ bc → Cnt W bc l p → l ≤ 3 → p ≤ 16 → Tab W → Calls Tryz.prog 67 #[.pointer (some ⟨bc, 0, none⟩), .agg (CS j).toArray] W fun e w' => NodeR W w' w.heap.size bc l p k e)
    (hsh : ∀ (j : Nat) (k : VT), ks[j]? = some k → ∃ (s n : Int) (t : ByteArray) (an : Option Addr) (ln cn : Nat) (ak : Option Addr) (lk ck : Nat), CS j = [.int .i64 s, .int .i64 n, .string t, .slice an ln cn, .slice ak lk ck])
    (W0 : World) (hW0 : w.grownBy W0 none) (bc L P : Nat) (hbc : w.heap.size ≤ bc) (hcn : Cnt W0 bc L P) (hL : L ≤ 3) (hP : P ≤ 16) (hT : Tab W0) (hb2 : 2 ≤ bc) :
    Calls Tryz.prog 99 #[.pointer (some ⟨bc, 0, none⟩), .slice ak ks.length ck] W0 fun e w' => NodesR W0 w' w.heap.size bc L P ks e := by
  have HP := Lib.hid hp
  have HI := Lib.hid ih
  have HSH := Lib.hid hsh
  have HW := Lib.hid hW0
  have HT := Lib.hid hT
  have HC0 := Lib.hid hcn
  have HF := Lib.hid (fault_any W0 bc L P hcn)
  have hbl : bc < W0.heap.size := hcn.lt
  clear hp ih hsh hW0 hT hcn
  by_cases h5 : (5 : Int) < ks.length
  · have HD := Lib.hid (show NodesR W0 W0 w.heap.size bc L P ks (.returned (.tuple #[.slice none 0 0, .iface 93 (.agg #[.int .i64 (P : Int)])])) from
      ⟨_, _, rfl, grown_refl _ _, .inr ⟨rfl, ⟨_, rfl⟩, fun h => by have := h.1; omega, L, P, Nat.le_refl _, by omega, by omega, HC0.out⟩⟩)
    go_enter Tryz.func99, Tryz.ntmps99
    go_wp2_with fail
    refine HF.out.mono ?_
    rintro e w1 ⟨rfl, hw⟩
    have hw := hw.symm
    subst hw
    go_wp2
    go_ret2
    exact HD.out
  have h5n : (ks.length : Int) ≤ 5 := by omega
  have h5N : ks.length ≤ 5 := by omega
  obtain ⟨i42, hi42, hz0, hz1, hz2⟩ := info_parts info42
  have hmk : ∀ W : World, (Instr.makeSlice 101 (.int .i64 0) (.int .i64 (ks.length : Int))).run Tryz.prog W = .ok (.slice (some ⟨W.heap.size, 0, none⟩) 0 ks.length) (W.alloc (.cells (madeCells #[.nilIface] ks.length) 56)) := fun W => by
    have := run_make (P := Tryz.prog) W 101 56 i42 .nilIface Tryz.underlying101 hi42 hz0 .i64 .i64 0 (ks.length : Int) (by omega) (by omega) (by rw [hz2]; omega) (by omega)
    rw [this, hz1, show ((ks.length : Int)).toNat = ks.length from by omega]
    simp [Value.cells]
  have HS0 := Lib.hid (show NSt W0 (W0.alloc (.cells (madeCells #[.nilIface] ks.length) 56)) w.heap.size W0.heap.size bc L P ks 0 from
    ⟨grown_alloc (grown_refl _ _) _, by simp [countK]; exact Blk.alloc HC0.out _, by simp [countK]; omega, fun j t _ h => absurd h (Nat.not_lt_zero _), [], rfl, by
      have : madeCells #[Value.nilIface] ks.length = (([] : List Value) ++ List.replicate (ks.length - 0) Value.nilIface).toArray := by rw [made_one]; simp
      rw [this]
      exact Blk.new W0 56 _, fun j t v _ h => by simp at h⟩)
  clear h5 HF HC0
  go_enter Tryz.func99, Tryz.ntmps99
  go_wp2
  go_loopw [6, 23] (fun kv i wr => ∃ k : Nat, k ≤ ks.length ∧ kv = .slice (some ⟨W0.heap.size, 0, none⟩) k ks.length ∧ i = .int .i64 k ∧ NSt W0 wr w.heap.size W0.heap.size bc L P ks k) (fun _ i _ => ks.length - (intOf i).toNat)
  case atStart => exact ⟨0, Nat.zero_le _, rfl, rfl, HS0.out⟩
  case round =>
    obtain ⟨k, hk, rfl, rfl, hst⟩ := hrel
    have HS := Lib.hid hst
    clear hst
    by_cases hlt : k < ks.length
    · rcases HP.out with h0 | ⟨b, o, rfl, -, hc⟩
      · omega
      have HGW := Lib.hid (grown_into HW.out HS.out.gr hbc)
      obtain ⟨c0, c1, c2, c3, c4, hcs, d0, d1, d2, d3, d4⟩ := (hc k hlt).kept HGW.out (by simp)
      obtain ⟨s, n, t, an, ln, cn, ak2, lk, ck2, hcs2⟩ := HSH.out k ks[k] (by simp [hlt])
      have hcs3 := hcs.symm.trans hcs2
      simp only [List.cons.injEq, and_true] at hcs3
      obtain ⟨rfl, rfl, rfl, rfl, rfl⟩ := hcs3
      clear hcs2
      have HGA := Lib.hid (show wr.grownBy (wr.alloc (Obj.cells #[Value.int .i64 s, .int .i64 n, .string t, .slice an ln cn, .slice ak2 lk ck2] 27)) none from grown_alloc (grown_refl _ _) _)
      have HCA := Lib.hid (HI.out k ks[k] (by simp [hlt]) _ (grown_trans HGW.out HGA.out) bc L (P + countK (ks.take k)) hbc (Blk.kept HS.out.cnt HGA.out (by simp)) hL HS.out.le ((HT.out.kept HS.out.gr (fun q e => by cases e; exact hb2)).grown HGA.out))
      rw [hcs] at HCA
      have HST := Lib.hid (countK_take ks k hlt)
      have hkI : (k : Int) < ks.length := by omega
      have hwl : W0.heap.size < wr.heap.size := by
        obtain ⟨xs, _, hb, _⟩ := HS.out.row
        exact hb.lt
      clear hc hcs
      go_wp2_with fail
      refine HCA.out.mono ?_
      rintro e w1 ⟨nv, ev, rfl, hg1, hr⟩
      have HG1 := Lib.hid (grown_trans (grown_widen HGA.out) hg1)
      have HR := Lib.hid hr
      clear hr hg1 HCA d0 d1 d2 d3 d4
      rcases HR.out with ⟨rfl, hok, hcnt, hnin⟩ | ⟨⟨q, rfl⟩, hno, l', p', hl1, hl2, hp1, hcnt⟩
      · have HOK := Lib.hid hok
        have HCT := Lib.hid hcnt
        have HNI := Lib.hid hnin
        clear hok hcnt hnin HR
        obtain ⟨xs, hxl, hbk, hall⟩ := HS.out.row
        have HBK := Lib.hid (hbk.kept HG1.out (by simp; omega))
        have HXL := Lib.hid hxl
        have HALL := Lib.hid hall
        have HLL := Lib.hid (show ks.length ≤ (xs ++ List.replicate (ks.length - k) Value.nilIface).length from by simp; omega)
        obtain ⟨ty, xv, hnv⟩ := HNI.out.face
        subst hnv
        have h1c : (Value.iface ty xv).oneCell' = true := rfl
        clear hbk hall hxl
        go_wp2_with (first | (at_builtin; refine wpList_append_in rfl _ _ 101 rfl 56 i42 Tryz.underlying101 hi42 hz1 W0.heap.size k ks.length (xs ++ List.replicate (ks.length - k) Value.nilIface) 56 (HBK.out.alloc _) rfl ⟨_, 0, none⟩ 1 (.iface ty xv) rfl (news_new _ 56 [.iface ty xv] 0 (.iface ty xv) rfl) h1c hlt HLL.out ?_; intro w2 HB2 HG2))
        go_roundw
        case rel =>
          have hg12 : wr.grownBy _ (some bc) := grown_alloc HG1.out (.cells [.iface ty xv].toArray 56)
          refine ⟨k + 1, by omega, rfl, by go_num, ⟨grown_into (grown_trans HS.out.gr hg12) HG2.out (Nat.le_refl _), ?_, ?_, ?_, xs ++ [.iface ty xv], by have := HXL.out; simp; omega, ?_, ?_⟩⟩
          · rw [HST.out, ← Nat.add_assoc]
            exact Blk.kept (Blk.alloc HCT.out _) HG2.out (by simp; omega)
          · rw [HST.out, ← Nat.add_assoc]
            exact HOK.out.2
          · intro j t hj hjk
            by_cases e : j = k
            · subst e
              rw [List.getElem?_eq_getElem hlt] at hj
              cases hj
              exact HOK.out.1
            · exact HS.out.parts j t hj (by omega)
          · have := HB2.out
            rw [set_next xs k ks.length HXL.out hlt (.iface ty xv)] at this
            exact this
          · intro j t v hj hv
            have hx := HXL.out
            have hA : ∀ q, some W0.heap.size = some q → ¬ (q < w.heap.size ∨ W0.heap.size < q) := fun q e => by cases e; have := HW.out.size; omega
            have hB : ∀ q, some bc = some q → ¬ (q < w.heap.size ∨ W0.heap.size < q) := fun q e => by cases e; omega
            by_cases e : j = k
            · subst e
              rw [List.getElem?_eq_getElem hlt] at hj
              cases hj
              rw [List.getElem?_append_right (by omega), show j - xs.length = 0 from by omega] at hv
              cases hv
              exact (((HNI.out.wide (B := fun b => b < w.heap.size ∨ W0.heap.size < b) (fun b h => h.elim .inl (fun h => .inr (by simp at h; omega)))).kept (grown_alloc (grown_refl _ none) _) (fun q e => by cases e)).kept HG2.out hA)
            · have hjk : j < k := by
                have := (List.getElem?_eq_some_iff.1 hv).1
                simp at this
                omega
              rw [List.getElem?_append_left (by omega)] at hv
              exact ((HALL.out j t v hj hv).kept hg12 hB).kept HG2.out hA
        case measure => simp [intOf]; omega
      · have HD := Lib.hid (show NodesR W0 w1 w.heap.size bc L P ks (.returned (.tuple #[.slice none 0 0, .iface 93 (.agg #[.int .i64 q])])) from
          ⟨_, _, rfl, grown_trans HS.out.gr HG1.out, .inr ⟨rfl, ⟨_, rfl⟩, fun h => hno (by
            have h1 := countK_pre ks (k + 1)
            have h2 := HST.out
            exact ⟨(partsK_iff ks (L + 1)).1 h.2.1 k ks[k] (by simp [hlt]), by have := h.2.2; omega⟩), l', p', hl1, hl2, hp1, hcnt⟩⟩)
        clear HR hno hcnt
        go_wp2
        go_ret2
        exact HD.out
    · obtain rfl : k = ks.length := by omega
      have HD := Lib.hid (show NodesR W0 wr w.heap.size bc L P ks (.returned (.tuple #[.slice (some ⟨W0.heap.size, 0, none⟩) ks.length ks.length, .nilIface])) from by
        obtain ⟨xs, hxl, hbk, hall⟩ := HS.out.row
        have hct := HS.out.cnt
        have hle := HS.out.le
        rw [List.take_length] at hct hle
        refine ⟨_, _, rfl, HS.out.gr, .inl ⟨rfl, ⟨h5N, (partsK_iff ks (L + 1)).2 (fun j t hj => HS.out.parts j t hj (List.getElem?_eq_some_iff.1 hj).1), hle⟩, hct, _, _, fun j => xs.getD j .nilIface, rfl, Nat.le_refl _, ⟨W0.heap.size, rfl, .inr (Nat.le_refl _), fun j hj => hbk.cell ?_⟩, fun j t hj => ?_⟩⟩
        · rw [List.getElem?_append_left (by omega)]
          simp [show j < xs.length from by omega]
        · have hj2 := (List.getElem?_eq_some_iff.1 hj).1
          exact (hall j t (xs.getD j .nilIface) hj (by simp [show j < xs.length from by omega])).wide (fun b h => h.elim .inl (fun h => .inr (Nat.le_of_lt h))))
      go_wp2
      go_ret2
      exact HD.out
end Go.Proofs.YtgmigloafcejdaaGreatDoor
