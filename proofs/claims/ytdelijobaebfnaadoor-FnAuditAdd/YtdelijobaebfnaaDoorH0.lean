/- Small laws on worlds and blocks that the walks of this seat lean on. No program is named here. -/
import Derived.WalkKit
import Derived.WalkLawsBesides
import Derived.WalkSpells
import Derived.Handy
import Derived.BigQuiet
import Derived.BigRegion
import Derived.Deep.QuietTactic
import Derived.Deep.RegionHeld3
import Derived.Deep.RegionLaw
import Derived.Laws.BitsAllLaws
import Derived.Laws.CopyOwn
namespace Go.Proofs.YtdelijobaebfnaaDoor
open Go.RowKit

/-- block b holds just the cells L, none frozen -/
def Blk (w : World) (b : Nat) (t : TypeId) (L : List Value) : Prop := w.heap[b]? = some (.cells L.toArray t (0, 0))

theorem Blk.lt {w : World} {b : Nat} {t : TypeId} {L : List Value} (h : Blk w b t L) : b < w.heap.size := lt_of_block h
theorem Blk.cell {w : World} {b : Nat} {t : TypeId} {L : List Value} (h : Blk w b t L) {j : Nat} {v : Value} (hv : L[j]? = some v) : w.cell? ⟨b, j, none⟩ = some v := by
  rw [cell_of_row w b j L.toArray t (0, 0) h]; simpa using hv
theorem Blk.frozen {w : World} {b : Nat} {t : TypeId} {L : List Value} (h : Blk w b t L) (j : Nat) : w.frozen? ⟨b, j, none⟩ = false := frozen_of_row w b j _ t h
theorem Blk.set {w : World} {b : Nat} {t : TypeId} {L : List Value} (h : Blk w b t L) (j : Nat) (v : Value) : Blk (w.setCell ⟨b, j, none⟩ v) b t (L.set j v) := by
  have := heap_setCell_same w b j L.toArray t v h
  simpa [Blk] using this
theorem Blk.kept {w w' : World} {b : Nat} {t : TypeId} {L : List Value} {row : Option Nat} (h : Blk w b t L) (hg : w.grownBy w' row) (hne : some b ≠ row) : Blk w' b t L := by
  unfold Blk at *; rw [hg.block b (lt_of_block h) hne]; exact h
theorem Blk.drewN {w : World} {b : Nat} {t : TypeId} {L : List Value} (h : Blk w b t L) (n : Nat) : Blk (w.drewN n) b t L := h
theorem Blk.drew {w : World} {b : Nat} {t : TypeId} {L : List Value} (h : Blk w b t L) : Blk w.drew b t L := h
theorem Blk.alloc {w : World} {b : Nat} {t : TypeId} {L : List Value} (h : Blk w b t L) (o : Obj) : Blk (w.alloc o) b t L := by
  unfold Blk at *; rw [Below.heap_alloc w o b (lt_of_block h)]; exact h
theorem Blk.new (w : World) (t : TypeId) (L : List Value) : Blk (w.alloc (.cells L.toArray t)) w.heap.size t L := heap_alloc_new w _

theorem grown_refl (w : World) (row : Option Nat) : w.grownBy w row := ⟨rfl, rfl, rfl, Nat.le_refl _, fun _ _ _ => rfl⟩
theorem grown_trans {a b c : World} {row : Option Nat} (h : a.grownBy b row) (k : b.grownBy c row) : a.grownBy c row :=
  ⟨k.os.trans h.os, k.tape.trans h.tape, k.output.trans h.output, Nat.le_trans h.size k.size, fun i hi hr => (k.block i (Nat.lt_of_lt_of_le hi h.size) hr).trans (h.block i hi hr)⟩
theorem grown_drewN {a b : World} {row : Option Nat} (h : a.grownBy b row) (n : Nat) : a.grownBy (b.drewN n) row := grown_trans h ⟨rfl, rfl, rfl, Nat.le_refl _, fun _ _ _ => rfl⟩
theorem grown_drew {a b : World} {row : Option Nat} (h : a.grownBy b row) : a.grownBy b.drew row := grown_trans h ⟨rfl, rfl, rfl, Nat.le_refl _, fun _ _ _ => rfl⟩
theorem grown_set {a w : World} {b : Nat} (h : a.grownBy w (some b)) (j : Nat) (v : Value) : a.grownBy (w.setCell ⟨b, j, none⟩ v) (some b) :=
  grown_trans h ⟨rfl, rfl, rfl, by simp [World.setCell], fun k _ hr => heap_setCell_other _ _ _ _ (fun e => hr (by rw [e]))⟩
theorem grown_alloc {a w : World} {row : Option Nat} (h : a.grownBy w row) (o : Obj) : a.grownBy (w.alloc o) row := grown_trans h (World.grownBy_alloc w o row)
theorem grown_setRow {a w : World} {b : Nat} (h : a.grownBy w (some b)) (C : Array Value) : a.grownBy (w.setRow b C) (some b) :=
  grown_trans h ⟨rfl, rfl, rfl, by simp [World.setRow], fun k _ hr => setRow_other w b k C (fun e => hr (by rw [e]))⟩
theorem grown_setCells0 (w : World) (b : Nat) : ∀ (o : Nat) (r : List Value), w.grownBy (w.setCells b o r) (some b) := fun o r => by
  induction r generalizing w o with
  | nil => exact grown_refl w _
  | cons v r ih => exact grown_trans (grown_set (grown_refl w (some b)) o v) (ih (w.setCell ⟨b, o, none⟩ v) (o + 1))
/-- what is written is new: nothing old has turned -/
theorem grown_new {a w : World} {b : Nat} {row : Option Nat} (h : a.grownBy w (some b)) (hb : a.heap.size ≤ b) : a.grownBy w row :=
  ⟨h.os, h.tape, h.output, h.size, fun i hi _ => h.block i hi (fun e => by cases e; omega)⟩
/-- a step that writes into a block newer than the beginning -/
theorem grown_into {a w w' : World} {b : Nat} {row : Option Nat} (h : a.grownBy w row) (k : w.grownBy w' (some b)) (hb : a.heap.size ≤ b) : a.grownBy w' row :=
  ⟨k.os.trans h.os, k.tape.trans h.tape, k.output.trans h.output, Nat.le_trans h.size k.size, fun i hi hr => (k.block i (Nat.lt_of_lt_of_le hi h.size) (fun e => by cases e; omega)).trans (h.block i hi hr)⟩
theorem grown_widen {a w : World} {row : Option Nat} (h : a.grownBy w none) : a.grownBy w row := ⟨h.os, h.tape, h.output, h.size, fun i hi _ => h.block i hi (by simp)⟩
theorem below_of_grown {a w : World} {row : Option Nat} (h : a.grownBy w row) (hr : ∀ k, row = some k → a.heap.size ≤ k) : Below a.heap.size a w :=
  ⟨h.os, h.tape, h.output, h.size, fun k hk => h.block k hk (fun e => by have := hr k e.symm; omega)⟩
theorem grown_of_below {a w : World} (h : Below a.heap.size a w) (row : Option Nat) : a.grownBy w row := ⟨h.os, h.tape, h.output, h.size, fun k hk _ => h.block k hk⟩

/-- 'copy' into a block that is known whole, as one step of a region that draws its order; the world behind it is a letter -/
theorem step_copy_blk {P : Program} {ops : Array Oper} {o : Oper} {a : Act} {w : World} {K : Act → World → Prop} {Q : Exit → Act → World → Prop} {E : Prop} (hgd : o.guard = none) (d s : Operand) (dT sT : TypeId)
    (ho : o.op = .call { callee := .builtin .copy, args := #[d, s], argTypes := #[dT, sT] }) (elem : TypeId) (hu : P.underlying dT = some (.slice elem)) (hsz : (P.info? elem).map (·.size) = some 1)
    (g off dLen dCap : Nat) (ad : Addr) (sLen sCap : Nat) (hd : a.eval d = .slice (some ⟨g, off, none⟩) dLen dCap) (hs : a.eval s = .slice (some ad) sLen sCap)
    (cur : List Value) (t : TypeId) (hg : Blk w g t cur) (cs : List Value) (hn : cs.length = Nat.min sLen dLen)
    (hsrc : ∀ j v, cs[j]? = some v → w.cell? (ad.add j) = some v)
    (hfit : off + cs.length ≤ cur.length) (h1 : ∀ v ∈ cs, v.oneCell' = true)
    (h : ∀ w', Blk w' g t (splice cur off cs) → Hid (w.grownBy w' (some g)) → K (a.put o.dst (goInt cs.length)) w') :
    if Region.wanted o (yielded ops a.tmps) = true then Oper.wp P o a w K Q else E := by
  have hw : Region.wanted o (yielded ops a.tmps) = true := by simp [Region.wanted, hgd]
  rw [if_pos hw]
  have hrun := run_copy_row (P := P) w dT sT o.type elem g off dLen dCap ad sLen sCap cur.toArray t cs hu hsz hg hn hsrc (by simpa using hfit) h1
  unfold Oper.wp
  simp [execOp, ho, resolve, invoke, builtin, hd, hs, hrun, Result.andThen]
  refine h _ (show _ = _ by simpa [splice] using setRow_heap w g _ _ t _ hg) ⟨rfl, rfl, rfl, by simp [World.setRow], fun k _ hr => setRow_other w g k _ (fun e => hr (by rw [e]))⟩

end Go.Proofs.YtdelijobaebfnaaDoor
