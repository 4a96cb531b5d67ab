/- Lists of texts, marked, and asked whether they hold their marks. -/
import Derived.Test.YtdelijobaebfnaaDoorMv5
import Derived.Test.YtdelijobaebfnaaDoorMv2
import Derived.Shelf.Lay
import Derived.Shelf.LaysM
import Derived.Shelf.Strconv.Clone
namespace Go.Proofs.YtdelijobaebfnaaDoor
open Go.RowKit

/-- the marks from a number on, so many -/
def marks (k n : Nat) : List ByteArray := (List.range n).map fun i => MT (k + i)
theorem marks_len (k n : Nat) : (marks k n).length = n := by simp [marks]
theorem marks_get (k n j : Nat) (h : j < n) : (strs (marks k n))[j]? = some (.string (MT (k + j))) := by simp [strs, marks, h]
theorem Row.set {w : World} {base : Nat} {g len cap : Nat} {xs : List Value} (h : Row w base (.slice (some ⟨g, 0, none⟩) len cap) xs) (j : Nat) (x : Value) : Row (w.setCell ⟨g, j, none⟩ x) base (.slice (some ⟨g, 0, none⟩) len cap) (xs.set j x) := by
  rcases h with ⟨h, _⟩ | ⟨g', cap', he, hb, hl, hn, hc, hf⟩
  · cases h
  · cases he
    refine .inr ⟨g, cap, by simp, hb, by simpa [World.setCell] using hl, by simpa using hn, fun i hi => ?_, fun i hi => ?_⟩
    · have hi' : i < xs.length := by simpa using hi
      by_cases e : i = j
      · subst e
        rw [List.getElem?_set_self hi']
        have h1 := (hf i (by omega)).1
        obtain ⟨u, hu⟩ := Option.isSome_iff_exists.1 h1
        exact World.cell?_setCell_same w ⟨g, i, none⟩ x hu
      · rw [List.getElem?_set_ne (fun h => e h.symm), World.cell?_setCell_other w ⟨g, j, none⟩ ⟨g, i, none⟩ x (fun h => e (by cases h; rfl))]
        exact hc i hi'
    · refine ⟨?_, ?_⟩
      · exact World.isSome_setCells g [x] j w ⟨g, i, none⟩ (hf i hi).1
      · rw [World.frozen?_setCell]; exact (hf i hi).2

theorem Row.open_strs {w : World} {base : Nat} {v : Value} {ss : List ByteArray} (h : Row w base v (strs ss)) : (v = .slice none 0 0 ∧ ss = []) ∨ ∃ g cap, v = .slice (some ⟨g, 0, none⟩) ss.length cap ∧ base ≤ g ∧ g < w.heap.size ∧ (∀ j (hj : j < ss.length), w.cell? ⟨g, j, none⟩ = some (.string ss[j])) ∧ ∀ j, j < ss.length → w.frozen? ⟨g, j, none⟩ = false := by
  rcases h with ⟨rfl, h⟩ | ⟨g, cap, rfl, hb, hl, hn, hc, hf⟩
  · exact .inl ⟨rfl, by simpa [strs] using h⟩
  · rw [strs_len] at *
    refine .inr ⟨g, cap, rfl, hb, hl, fun j hj => ?_, fun j hj => (hf j (by omega)).2⟩
    rw [hc j hj]
    simp [strs, hj]

theorem Row.at_strs {w : World} {base g len cap : Nat} {L : List ByteArray} (h : Row w base (.slice (some ⟨g, 0, none⟩) len cap) (strs L)) (j : Nat) (hj : j < L.length) : g < w.heap.size ∧ (∃ x, w.cell? ⟨g, j, none⟩ = some (.string x)) ∧ w.frozen? ⟨g, j, none⟩ = false := by
  rcases h.open_strs with ⟨h0, -⟩ | ⟨g', cap', he, -, hgl, hcs, hfz⟩
  · cases h0
  · simp only [Value.slice.injEq, Option.some.injEq, Addr.mk.injEq] at he
    obtain ⟨⟨rfl, -, -⟩, -, -⟩ := he
    exact ⟨hgl, ⟨_, hcs j hj⟩, hfz j hj⟩
/-- marked so far -/
def markd (k : Nat) (ss : List ByteArray) (j : Nat) : List ByteArray := marks k j ++ ss.drop j
theorem markd_len (k : Nat) (ss : List ByteArray) (j : Nat) (h : j ≤ ss.length) : (markd k ss j).length = ss.length := by simp [markd, marks_len]; omega
theorem markd_step (k : Nat) (ss : List ByteArray) (j : Nat) (h : j < ss.length) : (strs (markd k ss j)).set j (.string (MT (k + j))) = strs (markd k ss (j + 1)) := by
  have hd : ss.drop j = ss[j] :: ss.drop (j + 1) := List.drop_eq_getElem_cons h
  unfold markd strs
  rw [hd, List.map_append, List.map_cons, List.set_append_right _ _ (by simp [marks_len])]
  simp [marks, List.range_succ]

end Go.Proofs.YtdelijobaebfnaaDoor
namespace Go.Proofs.YtdelijobaebfnaaDoor
open Go.RowKit

shelf_lay LaysM.n316 Nm 316 at Tryd as Tryd.laysClone

theorem cloneL_any (w : World) (s : ByteArray) (hs : s.size ≤ 1048576) : Calls Tryd.prog 62 #[.string s] w fun e w' => e = .returned (.string s) ∧ w.grownBy w' none := by
  refine (Any.stringslite_Clone Tryd.laysClone s w (by omega)).mono ?_
  rintro e w' ⟨rfl, hb⟩
  exact ⟨rfl, grown_of_below hb none⟩

set_option maxHeartbeats 1000000 in
theorem clone_any (w : World) (s : ByteArray) (hs : s.size ≤ 1048576) : Calls Tryd.prog 40 #[.string s] w fun e w' => e = .returned (.string s) ∧ w.grownBy w' none := by
  have HC := Lib.hid (cloneL_any w s hs)
  go_enter Tryd.func40, Tryd.ntmps40
  go_wp2_with fail
  refine HC.out.mono ?_
  rintro e w1 ⟨rfl, hg⟩
  have HG := Lib.hid hg
  clear hg HC
  go_wp2
  go_ret
  exact ⟨rfl, HG.out⟩

end Go.Proofs.YtdelijobaebfnaaDoor
