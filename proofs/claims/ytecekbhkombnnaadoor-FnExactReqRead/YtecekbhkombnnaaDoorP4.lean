/- Two lists of texts, one behind the other: slices.Concat. -/
import Derived.Test.YtecekbhkombnnaaDoorP3
import Derived.Shelf.Spec.SlicesGrow
import Derived.Ground.Names8Prog
namespace Go.Proofs.YtecekbhkombnnaaDoor
open Go.RowKit

shelf_lay_g Lays8.n4 Nm8 4 at Tryd 90 as Tryd.growS

theorem info9g : (Tryd.prog.info? 9).map (fun i => (i.zero, i.size, i.bytes)) = some (some (.string ⟨#[]⟩), 1, 16) := by kernel_rfl
theorem zero_size (z : Value) (hz : z.cells.size = 1) (n : Nat) : (Builtin.zeroCells z.cells n).size = n := by
  simp [Builtin.zeroCells, hz]

theorem grow_any (w : World) (n : Nat) (hn : n ≤ 4194304) : Calls Tryd.prog 90 #[.slice none 0 0, .int .i64 (n : Int)] w fun e w' => ∃ v, e = .returned v ∧ Row w' w.heap.size v (strs []) ∧ w.grownBy w' none := by
  by_cases h0 : n = 0
  · subst h0
    refine (Any8.slices_Grow_room Tryd.growS none 0 0 0 w (Nat.le_refl _) (by omega) (by omega) (Nat.le_refl _)).mono ?_
    rintro e w' ⟨rfl, rfl⟩
    exact ⟨_, rfl, Row.nil _ _, grown_refl _ _⟩
  · obtain ⟨i9, hi9, hz0, hz1, hz2⟩ := info_parts info9g
    refine (Any8.slices_Grow_grow Tryd.growS i9 (.string ⟨#[]⟩) hi9 hz0 (by rw [hz1]; decide) none 0 0 n [] w (Nat.le_refl _) (by omega) (by rw [hz2]; omega) (by omega) (by simp) (fun _ => rfl) (fun a h => by cases h)).mono ?_
    rintro e w' ⟨rfl, rfl⟩
    refine ⟨_, rfl, ?_, grown_alloc (grown_drew (grown_refl _ _)) _⟩
    refine Row.made w.drew _ _ _ ?_
    have hge := grownCap_ge w (0 + n) 0 (Tryd.growS_ren.t 25)
    have h1 := zero_size (.string ⟨#[]⟩) rfl (0 + n - 0)
    have h2 := zero_size (.string ⟨#[]⟩) rfl (grownCap w (0 + n) 0 (Tryd.growS_ren.t 25) - (0 + n))
    rw [Array.size_append, Array.size_append, h1, h2]
    simp only [List.size_toArray, List.length_nil]
    omega

/-- the cells of a list of texts behind an address -/
def At (w : World) (ad : Addr) (ss : List ByteArray) : Prop := ∀ j u, (strs ss)[j]? = some u → w.cell? (ad.add j) = some u
theorem At.kept {w w' : World} {g o : Nat} {ss : List ByteArray} {row : Option Nat} (h : At w ⟨g, o, none⟩ ss) (hg : w.grownBy w' row) (hr : some g ≠ row) : At w' ⟨g, o, none⟩ ss := fun j u hu => by
  have := h j u hu
  rw [Addr.add_mid] at this ⊢
  exact hg.cell this hr

set_option maxRecDepth 100000 in
set_option maxHeartbeats 2000000 in
theorem concat_any (w : World) (c g1 o1 c1 g2 o2 c2 : Nat) (s1 s2 : List ByteArray) (h1 : At w ⟨g1, o1, none⟩ s1) (h2 : At w ⟨g2, o2, none⟩ s2) (n1 : s1.length ≤ 1048576) (n2 : s2.length ≤ 1048576)
    (d0 : w.cell? ⟨c, 0, none⟩ = some (.slice (some ⟨g1, o1, none⟩) s1.length c1)) (d1 : w.cell? ⟨c, 1, none⟩ = some (.slice (some ⟨g2, o2, none⟩) s2.length c2)) :
    Calls Tryd.prog 73 #[.slice (some ⟨c, 0, none⟩) 2 2] w fun e w' => ∃ v, e = .returned v ∧ Row w' w.heap.size v (strs (s1 ++ s2)) ∧ w.grownBy w' none := by
  have H1 := Lib.hid h1
  have H2 := Lib.hid h2
  have HD0 := Lib.hid d0
  have HD1 := Lib.hid d1
  clear h1 h2
  obtain ⟨i9, hi9, hz0, hz1, hz2⟩ := info_parts info9g
  go_enter Tryd.func73, Tryd.ntmps73
  go_wp2
  go_loopw [3, 11] (fun sv i wr => ((i = .int .i64 0 ∧ sv = .int .i64 0) ∨ (i = .int .i64 1 ∧ sv = .int .i64 (s1.length : Int)) ∨ (i = .int .i64 2 ∧ sv = .int .i64 ((s1.length + s2.length : Nat) : Int))) ∧ wr = w) (fun _ i _ => 2 - (intOf i).toNat)
  case atStart => exact ⟨.inl ⟨rfl, rfl⟩, rfl⟩
  case round =>
    obtain ⟨hcase, hwr⟩ := hrel
    have hwr := hwr.symm
    subst hwr
    rcases hcase with ⟨rfl, rfl⟩ | ⟨rfl, rfl⟩ | ⟨rfl, rfl⟩
    · have q1 : ¬ (s1.length : Int) < 0 := by omega
      go_wp2
      go_roundw
      case rel => exact ⟨.inr (.inl ⟨by go_num, by simp⟩), by trivial⟩
      case measure => simp [intOf]
    · have q1 : ¬ (s1.length : Int) + (s2.length : Int) < 0 := by omega
      go_wp2
      go_roundw
      case rel => exact ⟨.inr (.inr ⟨by go_num, by congr 1⟩), by trivial⟩
      case measure => simp [intOf]
    · have HGR := Lib.hid (grow_any w (s1.length + s2.length) (by omega))
      clear d0 d1
      go_wp2_with fail
      refine HGR.out.mono ?_
      rintro e w1 ⟨v1, rfl, hr1, hg1⟩
      have HR1 := Lib.hid hr1
      have HG1 := Lib.hid hg1
      clear hr1 hg1 HGR
      go_wp2
      go_loopw [6, 27] (fun lv i wx => w.grownBy wx none ∧ ((i = .int .i64 0 ∧ Hid (Row wx w.heap.size lv (strs []))) ∨ (i = .int .i64 1 ∧ Hid (Row wx w.heap.size lv (strs s1))) ∨ (i = .int .i64 2 ∧ Hid (Row wx w.heap.size lv (strs (s1 ++ s2)))))) (fun _ i _ => 2 - (intOf i).toNat)
      case atStart => exact ⟨HG1.out, .inl ⟨rfl, HR1⟩⟩
      case round =>
        obtain ⟨hgx, hcase⟩ := hrel
        have HGX := Lib.hid hgx
        have hszw := hgx.size
        rcases hcase with ⟨rfl, HR⟩ | ⟨rfl, HR⟩ | ⟨rfl, HR⟩
        · have d0 := hgx.cell HD0.out (by simp)
          have HA := Lib.hid (H1.out.kept hgx (by simp))
          have HE := Lib.hid (show strs [] ++ strs s1 = strs s1 from rfl)
          clear hgx
          go_wp2_with (first | (at_builtin; refine wpList_append_row2 rfl _ _ 22 rfl 9 i9 (.string ⟨#[]⟩) 16 Tryd.underlying22 hi9 hz0 hz1 hz2 rfl w.heap.size _ (strs []) rfl HR.out ⟨g1, o1, none⟩ s1.length c1 (strs s1) rfl (strs_len _) HA.out (strs_one _) (by rw [strs_len]; simp only [List.length_nil]; unfold maxLen; omega) (by rw [strs_len]; simp only [List.length_nil]; omega) hszw ?_; intro v2 w2 HR2 HG2 HO2))
          go_roundw
          case rel => exact ⟨grown_own HGX.out HG2.out (fun q hq => (HR.out.lt q hq).1), .inr (.inl ⟨by go_num, Lib.hid (by rw [← HE.out]; exact HR2.out)⟩)⟩
          case measure => simp [intOf]
        · have d1 := hgx.cell HD1.out (by simp)
          have HA := Lib.hid (H2.out.kept hgx (by simp))
          have HE := Lib.hid (show strs s1 ++ strs s2 = strs (s1 ++ s2) from by simp [strs])
          clear hgx
          go_wp2_with (first | (at_builtin; refine wpList_append_row2 rfl _ _ 22 rfl 9 i9 (.string ⟨#[]⟩) 16 Tryd.underlying22 hi9 hz0 hz1 hz2 rfl w.heap.size _ (strs s1) rfl HR.out ⟨g2, o2, none⟩ s2.length c2 (strs s2) rfl (strs_len _) HA.out (strs_one _) (by rw [strs_len]; unfold maxLen; omega) (by rw [strs_len]; omega) hszw ?_; intro v2 w2 HR2 HG2 HO2))
          go_roundw
          case rel => exact ⟨grown_own HGX.out HG2.out (fun q hq => (HR.out.lt q hq).1), .inr (.inr ⟨by go_num, Lib.hid (by rw [← HE.out]; exact HR2.out)⟩)⟩
          case measure => simp [intOf]
        · clear hgx
          go_wp2
          go_ret
          exact ⟨_, rfl, HR.out, HGX.out⟩
end Go.Proofs.YtecekbhkombnnaaDoor
