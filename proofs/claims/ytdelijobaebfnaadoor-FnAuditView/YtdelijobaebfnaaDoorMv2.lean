/- Whole structs loaded and stored, the world behind a letter. No program is named here. -/
import Derived.Test.YtdelijobaebfnaaDoorR0
import Derived.StillTailTactics
import Derived.Great.BuildSlice
import Derived.Laws.Tables
import Derived.Laws.Rows
import Derived.Deep.CutRange
import Derived.Deep.DeepCutAuto
namespace Go.Proofs.YtdelijobaebfnaaDoor
open Go.RowKit

theorem wpList_load_blk {P : Program} {ops : Array Oper} {rest : List Oper} {o : Oper} {a : Act} {w : World} {Q : Exit → Act → World → Prop} (hgd : o.guard = none) (ty : TypeId) (x : Operand) (ho : o.op = .load ty x)
    (g : Nat) (L : List Value) (t : TypeId) (hg : Blk w g t L) (d : TypeDesc) (hu : P.underlying ty = some d) (hd : (match d with | .struct _ | .array _ _ => true | _ => false) = true) (hi : (P.info? ty).map (·.size) = some L.length)
    (hx : a.eval x = .pointer (some ⟨g, 0, none⟩)) (h : wpList P ops Q rest (a.put o.dst (.agg L.toArray)) w) : wpList P ops Q (o :: rest) a w :=
  wpList_load_row hgd ty x ho g hx t L.toArray (0, 0) d hg hu hd (by simpa using hi) h

theorem wpList_load_blk_if {P : Program} {ops : Array Oper} {rest : List Oper} {o : Oper} {a : Act} {w : World} {Q : Exit → Act → World → Prop} (ty : TypeId) (x : Operand) (ho : o.op = .load ty x) (hw : Region.wanted o (yielded ops a.tmps) = true)
    (g : Nat) (L : List Value) (t : TypeId) (hg : Blk w g t L) (d : TypeDesc) (hu : P.underlying ty = some d) (hd : (match d with | .struct _ | .array _ _ => true | _ => false) = true) (hi : (P.info? ty).map (·.size) = some L.length)
    (hx : a.eval x = .pointer (some ⟨g, 0, none⟩)) (h : wpList P ops Q rest (a.put o.dst (.agg L.toArray)) w) : wpList P ops Q (o :: rest) a w :=
  wpList_step fun _ hK => by rw [if_pos hw]; exact wp_load_row ty x ho g hx t L.toArray (0, 0) d hg hu hd (by simpa using hi) (hK _ _ h)

theorem wpList_store_blk {P : Program} {ops : Array Oper} {rest : List Oper} {o : Oper} {a : Act} {w : World} {Q : Exit → Act → World → Prop} (hgd : o.guard = none) (ty : TypeId) (x y : Operand) (ho : o.op = .store ty x y)
    (g : Nat) (L old : List Value) (t : TypeId) (hg : Blk w g t old) (hi : (P.info? ty).map (·.size) = some L.length) (hold : old.length = L.length) (h1 : ∀ v ∈ L, v.oneCell' = true)
    (hx : a.eval x = .pointer (some ⟨g, 0, none⟩)) (hy : a.eval y = .agg L.toArray)
    (h : ∀ w', Hid (Blk w' g t L) → Hid (w.grownBy w' (some g)) → wpList P ops Q rest (a.put o.dst undef) w') : wpList P ops Q (o :: rest) a w := by
  refine wpList_store_row hgd ty x y ho g L.toArray hx hy t old.toArray hg (by simpa using hi) (by simpa using hold) (by simpa using h1) ?_
  exact h _ (Lib.hid (setRow_heap w g _ _ t _ hg)) (Lib.hid ⟨rfl, rfl, rfl, by simp [World.setRow], fun k _ hr => setRow_other w g k _ (fun e => hr (by rw [e]))⟩)

theorem wpList_store_cell {P : Program} {ops : Array Oper} {rest : List Oper} {o : Oper} {a : Act} {w : World} {Q : Exit → Act → World → Prop} (hgd : o.guard = none) (ty : TypeId) (x y : Operand) (ho : o.op = .store ty x y)
    (g : Nat) (v old : Value) (t : TypeId) (hg : Blk w g t [old]) (hi : (P.info? ty).map (·.size) = some 1) (h1 : v.oneCell' = true)
    (hx : a.eval x = .pointer (some ⟨g, 0, none⟩)) (hy : a.eval y = v)
    (h : ∀ w', Hid (Blk w' g t [v]) → Hid (w.grownBy w' (some g)) → wpList P ops Q rest (a.put o.dst undef) w') : wpList P ops Q (o :: rest) a w := by
  subst hy
  refine wpList_store_one hgd ty x y ho g hx h1 t old hg hi ?_
  exact h _ (Lib.hid (setRow_heap w g _ _ t _ hg)) (Lib.hid ⟨rfl, rfl, rfl, by simp [World.setRow], fun k _ hr => setRow_other w g k _ (fun e => hr (by rw [e]))⟩)

/-- a region that draws its order: reads (and calls that leave the world) first, in whatever order, then the rest as it stands; the world behind the draw under a letter -/
theorem wp_still_tail {P : Program} {id : Nat} {Q : Exit → Act → World → Prop} {a : Act} {w : World} {l : List Oper} (n : Nat) (hm : P.follows .mixedOrders = true) (hB : Region.lexTailB .any l.toArray n = true) (S : World → Prop) (h0 : S w.drew)
    (h : ∀ wy, S wy → wpStill P l.toArray wy (fun a' => wpList P l.toArray Q (l.drop n) a' wy) (l.take n) a) : (Code.region id l.toArray true).wp P Q a w :=
  wp_region_still_tail n hm hB (h w.drew h0)

theorem wp_still {P : Program} {id : Nat} {Q : Exit → Act → World → Prop} {a : Act} {w : World} {l : List Oper} (hm : P.follows .mixedOrders = true) (hB : Region.lexB .any l.toArray = true) (S : World → Prop) (h0 : S w.drew)
    (h : ∀ wy, S wy → wpStill P l.toArray wy (fun a' => Q .normal a' wy) l a) : (Code.region id l.toArray true).wp P Q a w :=
  wp_region_still_lit hm hB (h w.drew h0)

theorem results_blk {P : Program} {fn : Func} {p s : Tmp} {ty : TypeId} (h : fn.results = #[.cell p ty, .tmp s]) (tmps : Array Value) (w : World) (g : Nat) (t : TypeId) (L : List Value) (d : TypeDesc) (v : Value)
    (hg : Blk w g t L) (hu : P.underlying ty = some d) (hd : (match d with | .struct _ | .array _ _ => true | _ => false) = true) (hi : (P.info? ty).map (·.size) = some L.length)
    (hp : tmps[p]?.getD undef = .pointer (some ⟨g, 0, none⟩)) (hs : tmps[s]?.getD undef = v) :
    (results fn tmps).run P w = .ok (.tuple #[.agg L.toArray, v]) w := by
  simp [results, h, hp, hs, asAddr, run_loadVar_row w g t ty L.toArray (0, 0) d hg hu hd (by simpa using hi)]

theorem results_blk1 {P : Program} {fn : Func} {p : Tmp} {ty : TypeId} (h : fn.results = #[.cell p ty]) (tmps : Array Value) (w : World) (g : Nat) (t : TypeId) (L : List Value) (d : TypeDesc)
    (hg : Blk w g t L) (hu : P.underlying ty = some d) (hd : (match d with | .struct _ | .array _ _ => true | _ => false) = true) (hi : (P.info? ty).map (·.size) = some L.length)
    (hp : tmps[p]?.getD undef = .pointer (some ⟨g, 0, none⟩)) :
    (results fn tmps).run P w = .ok (.agg L.toArray) w := by
  simp [results, h, hp, asAddr, run_loadVar_row w g t ty L.toArray (0, 0) d hg hu hd (by simpa using hi)]

end Go.Proofs.YtdelijobaebfnaaDoor
namespace Go.Proofs.YtdelijobaebfnaaDoor
open Go.RowKit

theorem news_new (w : World) (t : TypeId) (L : List Value) : ∀ j u, L[j]? = some u → (w.alloc (.cells L.toArray t)).cell? ((⟨w.heap.size, 0, none⟩ : Addr).add j) = some u := fun j u hu => by
  rw [Addr.add_mid, Nat.zero_add]; exact (Blk.new w t L).cell hu
theorem grown_own {a w w' : World} {row : Option Nat} {r : Option Nat} (h : a.grownBy w r) (k : w.grownBy w' row) (hb : ∀ q, row = some q → a.heap.size ≤ q) : a.grownBy w' r :=
  ⟨k.os.trans h.os, k.tape.trans h.tape, k.output.trans h.output, Nat.le_trans h.size k.size, fun i hi hr => (k.block i (Nat.lt_of_lt_of_le hi h.size) (fun e => by have := hb i e.symm; omega)).trans (h.block i hi hr)⟩
theorem info_parts {P : Program} {t : TypeId} {z : Value} {s b : Nat} (h : (P.info? t).map (fun i => (i.zero, i.size, i.bytes)) = some (some z, s, b)) : ∃ i, P.info? t = some i ∧ i.zero = some z ∧ i.size = s ∧ i.bytes = b := by
  cases hq : P.info? t with
  | none => simp [hq] at h
  | some i =>
    simp [hq] at h
    exact ⟨i, rfl, h.1, h.2.1, h.2.2⟩
def ints (L : List Int) : List Value := L.map (Value.int .i64)
theorem ints_one (L : List Int) : ∀ v ∈ ints L, v.oneCell' = true := fun v hv => by
  obtain ⟨s, _, rfl⟩ := List.mem_map.1 hv
  rfl
theorem ints_len (L : List Int) : (ints L).length = L.length := by simp [ints]
theorem ints_app (L M : List Int) : ints (L ++ M) = ints L ++ ints M := by simp [ints]
/-- a row of numbers, opened -/
theorem row_ints {w : World} {base : Nat} {v : Value} {L : List Int} (h : Row w base v (ints L)) : ∃ ta g cp, v = .slice ta L.length cp ∧ L.length ≤ cp ∧ (0 < L.length → ta = some ⟨g, 0, none⟩) ∧ (∀ j, j < L.length → w.cell? ⟨g, j, none⟩ = some (.int .i64 (L.getD j 0))) ∧ (∀ j, j < L.length → w.frozen? ⟨g, j, none⟩ = false) ∧ (0 < L.length → base ≤ g ∧ g < w.heap.size) ∧ (0 < L.length → v.ownBlock = some g) := by
  rcases h with ⟨rfl, h0⟩ | ⟨g, cap, rfl, hb, hl, hn, hc, hf⟩
  · have : L = [] := by simpa [ints] using h0
    subst this
    exact ⟨none, 0, 0, rfl, by simp, fun h => absurd h (by simp), fun j hj => absurd hj (by simp), fun j hj => absurd hj (by simp), fun h => absurd h (by simp), fun h => absurd h (by simp)⟩
  · rw [ints_len] at *
    refine ⟨_, g, cap, rfl, hn, fun _ => rfl, fun j hj => ?_, fun j hj => (hf j (by omega)).2, fun _ => ⟨hb, hl⟩, fun _ => rfl⟩
    rw [hc j hj]
    simp [ints, hj]
/-- those below k of which p says yes, in order -/
def filtL (p : Nat → Bool) (k : Nat) : List Int := ((List.range k).filter p).map fun (j : Nat) => (j : Int)
theorem filtL_succ (p : Nat → Bool) (k : Nat) : filtL p (k + 1) = filtL p k ++ (if p k then [(k : Int)] else []) := by
  unfold filtL
  rw [List.range_succ, List.filter_append, List.map_append]
  cases h : p k <;> simp [h]
theorem filtL_len (p : Nat → Bool) (k : Nat) : (filtL p k).length ≤ k := by
  unfold filtL
  have := List.length_filter_le p (List.range k)
  simpa using this
theorem filtL_congr (p q : Nat → Bool) (k : Nat) (h : ∀ j, j < k → p j = q j) : filtL p k = filtL q k := by
  unfold filtL
  rw [List.filter_congr (fun x hx => h x (List.mem_range.1 hx))]

end Go.Proofs.YtdelijobaebfnaaDoor
