/- What the order's loops keep. -/
import Derived.Test.YtklkfphpoheanaaDoorM3
import Derived.Test.YtklkfphpoheanaaDoorP4
import Derived.Deep.MidRow
namespace Go.Proofs.YtklkfphpoheanaaDoor
open Go.RowKit

theorem wo_bits (s k : Nat) (hs : s < 65536) (hk : k < 16) : bits .andNot .u16 (s : Int) (IntKind.u16.wrap (2 ^ k)) = ((wo s k : Nat) : Int) := by
  have e : IntKind.u16.wrap (2 ^ k) = ((2 ^ k : Nat) : Int) := by
    have := two_lt k hk
    rw [IntKind.wrap_u16]
    have e2 : ((2 : Int) ^ k) = ((2 ^ k : Nat) : Int) := by push_cast; rfl
    rw [e2]
    exact Int.emod_eq_of_lt (Int.natCast_nonneg _) (Int.ofNat_lt.2 this)
  rw [e, u16_andNot_nat _ _ hs (two_lt k hk)]
  rfl
theorem without_any (w : World) (s k : Nat) (hs : s < 65536) (hk : k < 16) : Calls Tryd.prog 39 #[.int .u16 (s : Int), .int .i64 (k : Int)] w fun e w' => e = .returned (.int .u16 ((wo s k : Nat) : Int)) ∧ w' = w := by
  have HB := Lib.hid (wo_bits s k hs hk)
  go_enter Tryd.func39, Tryd.ntmps39
  go_wp2
  go_ret
  refine ⟨?_, rfl⟩
  rw [← HB.out]
  rfl
def aCells (A : List Nat) : List Value := A.map fun (a : Nat) => Value.int .u16 (a : Int)
theorem aCells_len (A : List Nat) : (aCells A).length = A.length := by simp [aCells]
theorem aCells_one (A : List Nat) : ∀ v ∈ aCells A, v.oneCell' = true := by
  intro v hv
  obtain ⟨a, _, rfl⟩ := List.mem_map.1 hv; rfl
theorem aCells_get (A : List Nat) (o : Nat) (ho : o < A.length) : (aCells A)[o]? = some (.int .u16 ((A.getD o 0 : Nat) : Int)) := by simp [aCells, ho]
theorem aCells_set (A : List Nat) (o x : Nat) : aCells (A.set o x) = (aCells A).set o (.int .u16 (x : Int)) := by simp [aCells, List.map_set]
theorem info50 : (Tryd.prog.info? 47).map (·.size) = some 16 := by kernel_rfl
theorem range_g {w : World} {gb : Nat} {n : Int} {A : List Nat} (h : Blk w gb 49 (gCells n A)) : w.rangeAt gb 1 (aCells A) := fun j v hv => by
  refine h.cell ?_
  rw [Nat.add_comm, gCells, List.getElem?_cons_succ]
  exact hv

/-- the state of the order's loops -/
structure OSt (w wr : World) (n : Nat) (A : List Nat) (lv : Value) (D : List Int) (lb : Nat) (T : List Nat) (v : Value) (H : List Int) : Prop where
  bg : Blk wr w.heap.size 49 (gCells n A)
  bh : Blk wr (w.heap.size + 1) 65 [v]
  rh : Row wr (w.heap.size + 2) v (ints H)
  hp : HeapL H H.length
  rl : Row wr (w.heap.size + 2) lv (ints D)
  bl : Blk wr lb 47 (aCells T)
  lbb : w.heap.size + 2 ≤ lb
  n1 : v.ownBlock ≠ some lb
  n2 : lv.ownBlock ≠ some lb
  n3 : ∀ q, lv.ownBlock = some q → v.ownBlock ≠ some q
  sz : w.heap.size + 2 ≤ wr.heap.size
  gr : w.grownBy wr none
theorem not_hpX {hb : Nat} {v : Value} {q : Nat} (h1 : q ≠ hb) (h2 : v.ownBlock ≠ some q) : ¬ hpX hb v q := fun h => h.elim h1 h2
theorem OSt.fr {w wr w' : World} {n : Nat} {A : List Nat} {lv : Value} {D : List Int} {lb : Nat} {T : List Nat} {v v' : Value} {H H' : List Int} (h : OSt w wr n A lv D lb T v H) (hB : Blk w' (w.heap.size + 1) 65 [v']) (hR : Row w' (w.heap.size + 2) v' (ints H')) (hh : HeapL H' H'.length) (hF : Fr wr w' (hpX (w.heap.size + 1) v)) (hO : ∀ q, v'.ownBlock = some q → v.ownBlock = some q ∨ wr.heap.size ≤ q) : OSt w w' n A lv D lb T v' H' := by
  have hvb : ∀ q, v.ownBlock = some q → w.heap.size + 2 ≤ q := fun q hq => (h.rh.lt q hq).1
  refine ⟨hF.blk h.bg (not_hpX (by omega) (fun e => by have := hvb _ e; omega)), hB, hR, hh, hF.row h.rl (fun q hq => not_hpX (by have := (h.rl.lt q hq).1; omega) (h.n3 q hq)), hF.blk h.bl (not_hpX (by have := h.lbb; omega) h.n1), h.lbb, ?_, h.n2, ?_, Nat.le_trans h.sz hF.size, hF.grown h.gr (fun i hi => not_hpX (by omega) (fun e => by have := hvb _ e; omega))⟩
  · intro e
    rcases hO lb e with h1 | h1
    · exact h.n1 h1
    · have := h.bl.lt; omega
  · intro q hq e
    rcases hO q e with h1 | h1
    · exact h.n3 q hq h1
    · have := (h.rl.lt q hq).2; omega
theorem OSt.list {w wr w' : World} {n : Nat} {A : List Nat} {lv lv' : Value} {D D' : List Int} {lb : Nat} {T : List Nat} {v : Value} {H : List Int} (h : OSt w wr n A lv D lb T v H) (hR : Row w' (w.heap.size + 2) lv' (ints D')) (hg : wr.grownBy w' lv.ownBlock) (hO : ∀ q, lv'.ownBlock = some q → lv.ownBlock = some q ∨ wr.heap.size ≤ q) : OSt w w' n A lv' D' lb T v H := by
  have hlb : ∀ q, lv.ownBlock = some q → w.heap.size + 2 ≤ q := fun q hq => (h.rl.lt q hq).1
  have ne : ∀ q, q < w.heap.size + 2 → some q ≠ lv.ownBlock := fun q hq e => by have := hlb q e.symm; omega
  refine ⟨h.bg.kept hg (ne _ (by omega)), h.bh.kept hg (ne _ (by omega)), h.rh.kept hg (fun q hq e => h.n3 q e.symm hq), h.hp, hR, h.bl.kept hg (fun e => h.n2 e.symm), h.lbb, h.n1, ?_, ?_, Nat.le_trans h.sz hg.size, grown_own h.gr hg (fun q hq => by have := hlb q hq; omega)⟩
  · intro e
    rcases hO lb e with h1 | h1
    · exact h.n2 h1
    · have := h.bl.lt; omega
  · intro q hq e
    rcases hO q hq with h1 | h1
    · exact h.n3 q h1 e
    · have := (h.rh.lt q e).2; omega
theorem OSt.left {w wr : World} {n : Nat} {A : List Nat} {lv : Value} {D : List Int} {lb : Nat} {T : List Nat} {v : Value} {H : List Int} (h : OSt w wr n A lv D lb T v H) (o x : Nat) : OSt w (wr.setCell ⟨lb, o, none⟩ (.int .u16 (x : Int))) n A lv D lb (T.set o x) v H := by
  have hg : wr.grownBy (wr.setCell ⟨lb, o, none⟩ (.int .u16 (x : Int))) (some lb) := grown_set (grown_refl _ _) _ _
  have hl := h.lbb
  refine ⟨h.bg.kept hg (by simp; omega), h.bh.kept hg (by simp; omega), h.rh.kept hg (fun q hq e => by cases e; exact h.n1 hq), h.hp, h.rl.kept hg (fun q hq e => by cases e; exact h.n2 hq), by rw [aCells_set]; exact h.bl.set o _, h.lbb, h.n1, h.n2, h.n3, Nat.le_trans h.sz hg.size, grown_into h.gr hg (by omega)⟩
theorem OSt.alloc {w wr : World} {n : Nat} {A : List Nat} {lv : Value} {D : List Int} {lb : Nat} {T : List Nat} {v : Value} {H : List Int} (h : OSt w wr n A lv D lb T v H) (ob : Obj) : OSt w (wr.alloc ob) n A lv D lb T v H :=
  ⟨h.bg.alloc _, h.bh.alloc _, h.rh.alloc _, h.hp, h.rl.alloc _, h.bl.alloc _, h.lbb, h.n1, h.n2, h.n3, by have := h.sz; simp; omega, grown_alloc h.gr _⟩
/-- the array that is looked at is copied -/
theorem OSt.copy {w wr w' : World} {n : Nat} {A : List Nat} {lv : Value} {D : List Int} {lb : Nat} {T : List Nat} {v : Value} {H : List Int} (h : OSt w wr n A lv D lb T v H) (ob : Obj) (hb : Blk w' wr.heap.size 47 (aCells T)) (hg : (wr.alloc ob).grownBy w' (some wr.heap.size)) : OSt w w' n A lv D wr.heap.size T v H := by
  have ha := h.alloc ob
  have hs := h.sz
  have nv : ∀ q, v.ownBlock = some q → q < wr.heap.size := fun q hq => (h.rh.lt q hq).2
  have nl : ∀ q, lv.ownBlock = some q → q < wr.heap.size := fun q hq => (h.rl.lt q hq).2
  refine ⟨ha.bg.kept hg (by simp; omega), ha.bh.kept hg (by simp; omega), ha.rh.kept hg (fun q hq e => by cases e; have := nv _ hq; omega), h.hp, ha.rl.kept hg (fun q hq e => by cases e; have := nl _ hq; omega), hb, hs, fun e => by have := nv _ e; omega, fun e => by have := nl _ e; omega, h.n3, Nat.le_trans ha.sz hg.size, grown_into ha.gr hg (by omega)⟩
def sliceLen : Value → Nat
  | .slice _ k _ => k
  | _ => 0
theorem Row.slen {w : World} {base : Nat} {v : Value} {L : List Int} (h : Row w base v (ints L)) : sliceLen v = L.length := by
  obtain ⟨_, _, _, rfl, _⟩ := row_ints h
  rfl

end Go.Proofs.YtklkfphpoheanaaDoor
