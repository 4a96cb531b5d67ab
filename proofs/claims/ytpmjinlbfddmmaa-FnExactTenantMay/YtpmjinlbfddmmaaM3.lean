/- Users, copied and compared. -/
import Derived.Test.YtpmjinlbfddmmaaM2
import Derived.Test.YtpmjinlbfddmmaaB0
namespace Go.Proofs.Ytpmjinlbfddmmaa
open Go.RowKit

theorem results_blk1 {P : Program} {fn : Func} {p : Tmp} {ty : TypeId} (h : fn.results = #[.cell p ty]) (tmps : Array Value) (w : World) (g : Nat) (t : TypeId) (L : List Value) (d : TypeDesc)
    (hg : Blk w g t L) (hu : P.underlying ty = some d) (hd : (match d with | .struct _ | .array _ _ => true | _ => false) = true) (hi : (P.info? ty).map (·.size) = some L.length)
    (hp : tmps[p]?.getD undef = .pointer (some ⟨g, 0, none⟩)) :
    (results fn tmps).run P w = .ok (.agg L.toArray) w := by
  simp [results, h, hp, asAddr, run_loadVar_row w g t ty L.toArray (0, 0) d hg hu hd (by simpa using hi)]
theorem info70s : (Try.prog.info? 70).map (·.size) = some 2 := by kernel_rfl
theorem info70 : (Try.prog.info? 70).map (fun i => (i.zero, i.size, i.bytes)) = some (some (.agg #[.string ⟨#[]⟩, .slice none 0 0]), 2, 40) := by kernel_rfl

def z2 : List Value := [.string ⟨#[]⟩, .slice none 0 0]
def zs2 : Nat → List Value
  | 0 => []
  | m + 1 => z2 ++ zs2 m
theorem zs2_len (m : Nat) : (zs2 m).length = m * 2 := by
  induction m with
  | zero => rfl
  | succ m ih => simp [zs2, z2, ih]; omega
theorem zs2_get (m i : Nat) (h : i < m * 2) : (zs2 m)[i]? = z2[i % 2]? := by
  induction m generalizing i with
  | zero => omega
  | succ m ih =>
    unfold zs2
    by_cases h5 : i < 2
    · rw [List.getElem?_append_left (by simpa [z2] using h5), Nat.mod_eq_of_lt h5]
    · rw [List.getElem?_append_right (by simp [z2]; omega), show z2.length = 2 from rfl, ih (i - 2) (by omega)]
      congr 1
      omega
theorem made_two (n : Nat) : madeCells #[Value.string ⟨#[]⟩, .slice none 0 0] (n * 2) = (zs2 n).toArray := by
  unfold madeCells
  apply Array.ext
  · simp [zs2_len]
  · intro i h1 h2
    simp at h1
    have hz := zs2_get n i h1
    have hlt : i < (zs2 n).length := by rw [zs2_len]; exact h1
    rw [List.getElem?_eq_getElem hlt] at hz
    have h5 : i % 2 = 0 ∨ i % 2 = 1 := by omega
    rcases h5 with h | h <;> simp [h, z2] at hz ⊢ <;> rw [hz]
theorem set_two (X : List Value) (k m : Nat) (hX : X.length = k * 2) (c0 c1 : Value) : ((X ++ zs2 (m + 1)).set (k * 2) c0).set (k * 2 + 1) c1 = (X ++ [c0, c1]) ++ zs2 m := by
  rw [List.set_append_right _ _ (by omega), List.set_append_right _ _ (by omega), hX, List.append_assoc]
  simp [zs2, z2, Nat.add_sub_cancel_left]
theorem get_two (X : List Value) (k m j : Nat) (hX : X.length = k * 2) (hj : j < 2) : (X ++ zs2 (m + 1))[k * 2 + j]? = z2[j]? := by
  rw [List.getElem?_append_right (by omega), hX, Nat.add_sub_cancel_left, zs2, List.getElem?_append_left (by simpa [z2] using hj)]

set_option maxRecDepth 100000 in
set_option maxHeartbeats 1000000 in
theorem toUser_any (w : World) (base : Nat) (u : ByteArray × List ByteArray) (ar : Option Addr) (cr : Nat) (hl : Lies w base ar u.2) (hn : u.2.length ≤ 1048576) :
    Calls Try.prog 48 #[.agg #[.string u.1, .slice ar u.2.length cr]] w fun e w' => ∃ g, e = .returned (.agg #[.string u.1, .slice (some ⟨g, 0, none⟩) u.2.length u.2.length]) ∧ w.heap.size ≤ g ∧ Lies w' w.heap.size (some ⟨g, 0, none⟩) u.2 ∧ w.grownBy w' none := by
  obtain ⟨W, hWe⟩ : ∃ W, (((w.alloc (Obj.cells #[Value.string u.1, .slice ar u.2.length cr] 67)).alloc (Obj.cells #[Value.string ⟨#[]⟩, .slice none 0 0] 70)).alloc (Obj.cells #[Value.string u.1, .slice none 0 0] 70)) = W := ⟨_, rfl⟩
  have HG := Lib.hid (show w.grownBy W none from by rw [← hWe]; exact grown_alloc (grown_alloc (grown_alloc (grown_refl _ _) _) _) _)
  have HR := Lib.hid (show Blk W (w.heap.size + 1) 70 [Value.string ⟨#[]⟩, .slice none 0 0] from by
    rw [← hWe]
    have := (Blk.new (w.alloc (Obj.cells #[Value.string u.1, .slice ar u.2.length cr] 67)) 70 [Value.string ⟨#[]⟩, .slice none 0 0]).alloc (Obj.cells #[Value.string u.1, .slice none 0 0] 70)
    simpa using this)
  have HO := Lib.hid (show Blk W (w.heap.size + 1 + 1) 70 [Value.string u.1, .slice none 0 0] from by
    rw [← hWe]
    have := Blk.new ((w.alloc (Obj.cells #[Value.string u.1, .slice ar u.2.length cr] 67)).alloc (Obj.cells #[Value.string ⟨#[]⟩, .slice none 0 0] 70)) 70 [Value.string u.1, .slice none 0 0]
    simpa using this)
  have hsz : w.heap.size + 1 + 1 < W.heap.size := HO.out.lt
  have HT := Lib.hid (toS_any W base ar cr u.2 (hl.kept HG.out (fun q e => by cases e)) hn)
  have HWE := Lib.hid hWe
  clear hl hWe
  go_enter Try.func48, Try.ntmps48
  go_wp2_with fail
  rw [HWE.out]
  refine HT.out.mono ?_
  rintro e w1 ⟨rfl, hl1, hg1⟩
  have HL1 := Lib.hid hl1
  have HR1 := Lib.hid (HR.out.kept hg1 (by simp))
  have HO1 := Lib.hid (HO.out.kept hg1 (by simp))
  have HG1 := Lib.hid (grown_trans HG.out hg1)
  have d0 : w1.cell? ⟨w.heap.size + 1 + 1, 0, none⟩ = some (.string u.1) := HO1.out.cell rfl
  have d1 : w1.cell? ⟨w.heap.size + 1 + 1, 1, none⟩ = some (.slice none 0 0) := HO1.out.cell rfl
  have e0 : w1.cell? ⟨w.heap.size + 1, 0, none⟩ = some (.string ⟨#[]⟩) := HR1.out.cell rfl
  have e1 : w1.cell? ⟨w.heap.size + 1, 1, none⟩ = some (.slice none 0 0) := HR1.out.cell rfl
  have f0 := HO1.out.frozen 1
  have f1 := HR1.out.frozen 0
  have f2 := HR1.out.frozen 1
  clear hl1 hg1 HT
  go_wp2
  have hs1 := grown_set (grown_refl w1 (some (w.heap.size + 1 + 1))) 1 (.slice (some ⟨W.heap.size, 0, none⟩) u.2.length u.2.length)
  have hrA := HR1.out.kept hs1 (by simp)
  have hlA := HL1.out.kept hs1 (fun q e => by cases e; omega)
  have hgA := grown_into HG1.out hs1 (by omega)
  have hs2 := grown_set (grown_set (grown_refl (w1.setCell ⟨w.heap.size + 1 + 1, 1, none⟩ (.slice (some ⟨W.heap.size, 0, none⟩) u.2.length u.2.length)) (some (w.heap.size + 1))) 0 (.string u.1)) 1 (.slice (some ⟨W.heap.size, 0, none⟩) u.2.length u.2.length)
  have hrB := (hrA.set 0 (.string u.1)).set 1 (.slice (some ⟨W.heap.size, 0, none⟩) u.2.length u.2.length)
  have hlB := hlA.kept hs2 (fun q e => by cases e; omega)
  have hgB := grown_into hgA hs2 (by omega)
  exact ⟨rfl, _, results_blk1 Try.results48 _ _ (w.heap.size + 1) 70 _ _ hrB Try.underlying70 rfl info70s rfl, _, rfl, by omega, hlB.base (by omega), hgB⟩
end Go.Proofs.Ytpmjinlbfddmmaa
