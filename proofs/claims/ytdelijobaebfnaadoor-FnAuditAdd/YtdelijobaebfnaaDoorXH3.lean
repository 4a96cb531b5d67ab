import Derived.Test.YtdelijobaebfnaaDoorXH2
import Derived.Deep.MidRow
namespace Go.Proofs.YtdelijobaebfnaaDoor
open Go.RowKit

abbrev u8s (B : List Int) : List Value := B.map (Value.int .u8)
theorem u8s_get {X : List Int} {j : Nat} (h : j < X.length) : (u8s X)[j]? = some (.int .u8 (X.getD j 0)) := by
  simp [u8s, h]

set_option maxRecDepth 100000 in
set_option maxHeartbeats 400000 in
theorem filled_any (c : Nat) (w : World) (n : Nat) (hn : n < 4611686018427387904) (hc : w.cell? ⟨c, 0, none⟩ = some (.int .u64 n)) :
    Calls Tryd.prog 67 #[.pointer (some ⟨c, 0, none⟩)] w fun e w' => e = .returned (.int .i64 ((n % 64 : Nat) : Int)) ∧ w' = w := by
  go_enter Tryd.func67, Tryd.ntmps67
  go_wp2
  go_ret
  exact ⟨ret_int (by omega), rfl⟩

set_option maxRecDepth 100000 in
set_option maxHeartbeats 400000 in
theorem count_any (c : Nat) (w : World) (n m : Nat) (hn : n + m < 4611686018427387904) (hc : w.cell? ⟨c, 0, none⟩ = some (.int .u64 n)) (hf : w.frozen? ⟨c, 0, none⟩ = false) :
    Calls Tryd.prog 68 #[.pointer (some ⟨c, 0, none⟩), .int .i64 m] w fun e w' => e = .returned (.tuple #[]) ∧ ∃ k, w' = (w.drewN k).setCell ⟨c, 0, none⟩ (.int .u64 ((n + m : Nat) : Int)) := by
  go_enter Tryd.func68, Tryd.ntmps68
  go_wp2
  go_end0
  exact ⟨rfl, 0, by rw [show ((n + m : Nat) : Int) = (n : Int) + (m : Int) from by omega]; rfl⟩

theorem size56 : (Tryd.prog.info? 95).map (·.size) = some 64 := by kernel_rfl
theorem size5 : (Tryd.prog.info? 5).map (·.size) = some 1 := by kernel_rfl

theorem run_index56 (B : List Int) (hB : B.length = 64) (k : Nat) (hk : k < 64) (w : World) : (Instr.index 95 (.agg (u8s B).toArray) (.int .i64 k)).run Tryd.prog w = .ok (.int .u8 (B.getD k 0)) w := by
  have hkB : k < B.length := by omega
  cases hq : Tryd.prog.info? 5 with
  | none => have := size5; simp [hq] at this
  | some i =>
    have hi : i.size = 1 := by have := size5; simpa [hq] using this
    simp [Instr.index, run_underlying Tryd.underlying95, sizeOf, typeInfo, hq, hi, part, isAgg, run_underlying Tryd.underlying5, asIntOf, hkB]
    intro h; omega

theorem splice_step (L : List Value) (o : Nat) (v : Value) (r : List Value) (h : o + (r.length + 1) ≤ L.length) : splice (L.set o v) (o + 1) r = splice L o (v :: r) := by
  have := list_seg_step L o v r h
  simpa [splice] using this
theorem splice_all {α : Type} {L r : List α} (h : r.length = L.length) : splice L 0 r = r := by
  unfold splice
  rw [List.drop_eq_nil_of_le (by omega)]; simp
theorem Blk.setCells {w : World} {b : Nat} {t : TypeId} : ∀ {L : List Value} (_ : Blk w b t L) (o : Nat) (r : List Value) (_ : o + r.length ≤ L.length), Blk (w.setCells b o r) b t (splice L o r)
  | L, h, o, [], hl => by
    have : splice L o [] = L := by unfold splice; simp
    rw [this]; exact h
  | L, h, o, v :: r, hl => by
    have := Blk.setCells (h.set o v) (o + 1) r (by simp at hl ⊢; omega)
    rw [splice_step L o v r (by simpa using hl)] at this
    exact this
theorem grown_setCells {a : World} {b : Nat} : ∀ {w : World} (_ : a.grownBy w (some b)) (o : Nat) (r : List Value), a.grownBy (w.setCells b o r) (some b)
  | _, h, _, [] => h
  | _, h, o, v :: r => grown_setCells (grown_set h o v) (o + 1) r

/-- a byte let into a word -/
def wStep (x c : Int) : Int := bits .or .u32 (x * 256 % 4294967296) (c % 4294967296)
def wordsTo (B : List Int) : Nat → List Int
  | 0 => List.replicate 16 0
  | k + 1 => (wordsTo B k).set (k / 4) (wStep ((wordsTo B k).getD (k / 4) 0) (B.getD k 0))
theorem wordsTo_len (B : List Int) : ∀ k, (wordsTo B k).length = 16
  | 0 => rfl
  | k + 1 => by rw [wordsTo, List.length_set]; exact wordsTo_len B k
theorem size71 : (Tryd.prog.info? 123).map (·.size) = some 16 := by kernel_rfl
theorem u32s_one (X : List Int) : ∀ v ∈ u32s X, v.oneCell' = true := fun v hv => by
  obtain ⟨x, _, rfl⟩ := List.mem_map.1 hv; rfl

set_option maxRecDepth 100000 in
set_option maxHeartbeats 400000 in
theorem block_walk (c : Nat) (w : World) (B : List Int) (hB : B.length = 64) (hr : w.rangeAt c 9 (u8s B)) :
    Calls Tryd.prog 70 #[.pointer (some ⟨c, 0, none⟩)] w fun e w' => ∃ X, e = .returned (.agg (u32s X).toArray) ∧ Hid (X = wordsTo B 64) ∧ w.grownBy w' none := by
  have HR := Lib.hid hr
  clear hr
  have hlen : (Tryd.prog.info? 95).map (·.size) = some (u8s B).length := by rw [size56]; simp [hB]
  have HL := Lib.hid hlen
  clear hlen
  go_enter Tryd.func70, Tryd.ntmps70
  go_wp2_with (refine wpList_load_mid rfl 95 _ rfl c 9 rfl (u8s B) _ (by exact (World.rangeAt_alloc (World.rangeAt_alloc HR.out _) _)) Tryd.underlying95 rfl HL.out ?_)
  go_loopw [10] (fun i wr => ∃ k : Nat, k ≤ 64 ∧ i = .int .i64 k ∧ Blk wr (w.heap.size + 1) 123 (u32s (wordsTo B k)) ∧ Blk wr w.heap.size 123 (u32s (wordsTo B 0)) ∧ w.grownBy wr none) (fun i _ => 64 - (intOf i).toNat)
  case atStart =>
    refine ⟨0, by omega, rfl, ?_, (Blk.new w 123 (u32s (wordsTo B 0))).alloc _, grown_alloc (grown_alloc (grown_refl _ _) _) _⟩
    have := Blk.new (w.alloc (.cells (u32s (wordsTo B 0)).toArray 123)) 123 (u32s (wordsTo B 0))
    rw [World.size_alloc] at this
    exact this
  case round =>
    obtain ⟨k, hk, rfl, hB1, hB0, hg⟩ := hrel
    have hXl := wordsTo_len B k
    obtain ⟨Xk, hXk⟩ : ∃ Xk, Xk = wordsTo B k := ⟨_, rfl⟩
    rw [← hXk] at hB1 hXl
    have HX := Lib.hid hXk
    have HB1 := Lib.hid hB1
    have HB0 := Lib.hid hB0
    have HG := Lib.hid hg
    clear hXk hB0 hg
    by_cases hlt : k < 64
    · obtain ⟨q, hq⟩ : ∃ q, q = k / 4 := ⟨_, rfl⟩
      have q0 : (k : Int) / 4 = (q : Int) := by omega
      have q1 : q < 16 := by omega
      have HQ := Lib.hid hq
      clear hq
      have e1 : wr.cell? ⟨w.heap.size + 1, q, none⟩ = some (.int .u32 (Xk.getD q 0)) := hB1.cell (u32s_get (by omega))
      have e2 := hB1.frozen q
      have e3 := run_index56 B hB k hlt
      clear hB1
      go_wp2
      go_roundw
      case rel =>
        have hXk := HX.out
        have hq := HQ.out
        subst hXk hq
        refine ⟨k + 1, by omega, by go_num, ?_, HB0.out.kept (grown_set (grown_refl wr (some (w.heap.size + 1))) _ _) (by simp), grown_into HG.out (grown_set (grown_refl wr (some (w.heap.size + 1))) _ _) (by omega)⟩
        have := HB1.out.set (k / 4) (.int .u32 (wStep ((wordsTo B k).getD (k / 4) 0) (B.getD k 0)))
        have hkB : k < B.length := by omega
        have hq' : k / 4 < (wordsTo B k).length := by rw [hXl]; omega
        simpa [wordsTo, u32s, List.map_set, wStep, hkB, hq'] using this
      case measure => simp [intOf]; omega
    · obtain rfl : k = 64 := by omega
      have l1 : wr.rangeAt (w.heap.size + 1) 0 (u32s Xk) := fun j v hv => by rw [Nat.zero_add]; exact HB1.out.cell hv
      have t1 : wr.there w.heap.size 0 (u32s Xk).toArray.size := fun j hj => by
        rw [Nat.zero_add]
        have hj' : j < 16 := by simpa [hXl] using hj
        exact ⟨by rw [HB0.out.cell (u32s_get (X := wordsTo B 0) (j := j) hj')]; rfl, HB0.out.frozen j⟩
      have z1 : (Tryd.prog.info? 123).map (·.size) = some (u32s Xk).length := by rw [size71]; simp [hXl]
      have z2 : (Tryd.prog.info? 123).map (·.size) = some (u32s Xk).toArray.size := by rw [size71]; simp [hXl]
      have L1 := Lib.hid l1
      have T1 := Lib.hid t1
      have Z1 := Lib.hid z1
      have Z2 := Lib.hid z2
      clear l1 t1 z1 z2 hB1
      go_wp2_with (first | (refine wpList_load_mid rfl 123 _ rfl (w.heap.size + 1) 0 rfl (u32s Xk) _ (by exact L1.out) Tryd.underlying123 rfl Z1.out ?_) | (refine wpList_store_mid rfl 123 _ _ rfl w.heap.size 0 (u32s Xk).toArray rfl rfl (by exact T1.out) Z2.out (all_oneCell_toArray (u32s_one Xk)) ?_))
      have hfin : Blk (wr.setCells w.heap.size 0 (u32s Xk)) w.heap.size 123 (u32s Xk) := by
        have := HB0.out.setCells 0 (u32s Xk) (by simp [hXl, wordsTo_len])
        rwa [splice_all (by simp [wordsTo_len, hXl])] at this
      have hres := fun tmps (hp : tmps.getD 2 undef = .pointer (some ⟨w.heap.size, 0, none⟩)) => results_cell_row (P := Tryd.prog) Tryd.results70 tmps _ w.heap.size 123 _ (0, 0) _ hp hfin Tryd.underlying123 rfl Z2.out
      refine bodyPost_ret (v := .agg (u32s Xk).toArray) (hres _ rfl) rfl ?_
      exact ⟨Xk, rfl, HX, grown_into HG.out (grown_setCells (grown_refl wr (some w.heap.size)) 0 _) (Nat.le_refl _)⟩

end Go.Proofs.YtdelijobaebfnaaDoor
