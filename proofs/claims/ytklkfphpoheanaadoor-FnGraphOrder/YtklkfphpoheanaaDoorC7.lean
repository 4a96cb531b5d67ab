/- slices.Concat of two. -/
import Derived.Test.YtklkfphpoheanaaDoorC6
namespace Go.Proofs.YtklkfphpoheanaaDoor
open Go.RowKit

theorem news_row {w : World} {g o : Nat} {X : List Int} {m : Nat} (e : X.length = m) (h : ∀ j, j < m → w.cell? ⟨g, o + j, none⟩ = some (.int .i64 (X.getD j 0))) : ∀ j u, (ints X)[j]? = some u → w.cell? ((⟨g, o, none⟩ : Addr).add j) = some u := fun j u hu => by
  have hj : j < X.length := by
    have := (List.getElem?_eq_some_iff.1 hu).1
    rwa [ints_len] at this
  rw [Addr.add_mid, h j (by omega), ← hu]
  simp [ints, hj]

set_option maxRecDepth 100000 in
set_option maxHeartbeats 1000000 in
theorem concat_any (w : World) (tb cp g o1 o2 m1 m2 c1 c2 : Nat) (X1 X2 : List Int) (d0 : w.cell? ⟨tb, 0, none⟩ = some (.slice (some ⟨g, o1, none⟩) m1 c1)) (d1 : w.cell? ⟨tb, 1, none⟩ = some (.slice (some ⟨g, o2, none⟩) m2 c2)) (e1 : X1.length = m1) (e2 : X2.length = m2) (h0 : 0 < m1 + m2) (h1 : m1 + m2 ≤ 16)
    (hx1 : ∀ j, j < m1 → w.cell? ⟨g, o1 + j, none⟩ = some (.int .i64 (X1.getD j 0))) (hx2 : ∀ j, j < m2 → w.cell? ⟨g, o2 + j, none⟩ = some (.int .i64 (X2.getD j 0))) :
    Calls Tryd.prog 51 #[.slice (some ⟨tb, 0, none⟩) 2 cp] w fun e w' => ∃ v, e = .returned v ∧ Row w' w.heap.size v (ints (X1 ++ X2)) ∧ w.grownBy w' none := by
  have HX1 := Lib.hid hx1
  have HX2 := Lib.hid hx2
  have HE1 := Lib.hid e1
  have HE2 := Lib.hid e2
  have HD0 := Lib.hid d0
  have HD1 := Lib.hid d1
  obtain ⟨i3, hi3, hz0, hz1, hz2⟩ := info_parts info3
  clear hx1 hx2 e1 e2 d0 d1
  go_enter Tryd.func51, Tryd.ntmps51
  go_wp2
  go_loop [3, 11] (fun s i => (i = .int .i64 0 ∧ s = .int .i64 0) ∨ (i = .int .i64 1 ∧ s = .int .i64 (m1 : Int)) ∨ (i = .int .i64 2 ∧ s = .int .i64 ((m1 + m2 : Nat) : Int))) (fun _ i => 2 - (intOf i).toNat)
  case atStart => exact .inl ⟨rfl, rfl⟩
  case round =>
    rcases hrel with ⟨rfl, rfl⟩ | ⟨rfl, rfl⟩ | ⟨rfl, rfl⟩
    · have d0 := HD0.out
      have hm : ¬ (m1 : Int) < 0 := by omega
      have hm2 : (m1 : Int) ≤ 16 := by omega
      go_wp2
      exact ⟨.inr (.inl ⟨rfl, by go_num⟩), by simp [intOf]⟩
    · have d0 := HD1.out
      have hm : ¬ (m1 : Int) + (m2 : Int) < 0 := by omega
      have hm2 : (m1 : Int) + (m2 : Int) ≤ 16 := by omega
      go_wp2
      exact ⟨.inr (.inr ⟨rfl, by go_num⟩), by simp [intOf]⟩
    · have HGR := Lib.hid (fun W => grow_any W (m1 + m2) h0 h1)
      go_wp2_with fail
      refine (HGR.out _).mono ?_
      rintro e w1 ⟨v, rfl, hrow, hg⟩
      have HR := Lib.hid hrow
      have HG := Lib.hid hg
      clear hrow hg HGR
      go_wp2
      go_loopw [6, 27] (fun v i wr => w.grownBy wr none ∧ w.heap.size ≤ wr.heap.size ∧ ((i = .int .i64 0 ∧ Row wr w.heap.size v (ints [])) ∨ (i = .int .i64 1 ∧ Row wr w.heap.size v (ints X1)) ∨ (i = .int .i64 2 ∧ Row wr w.heap.size v (ints (X1 ++ X2))))) (fun _ i _ => 2 - (intOf i).toNat)
      case atStart => exact ⟨HG.out, HG.out.size, .inl ⟨rfl, HR.out⟩⟩
      case round =>
        clear HR HG
        obtain ⟨hg, hsz, hcase⟩ := hrel
        have HG := Lib.hid hg
        rcases hcase with ⟨rfl, hr⟩ | ⟨rfl, hr⟩ | ⟨rfl, hr⟩
        · have d0 := hg.cell HD0.out (by simp)
          have HR := Lib.hid hr
          have HN := Lib.hid (news_row HE1.out (fun j hj => hg.cell (HX1.out j hj) (by simp)))
          have HL := Lib.hid (show (ints X1).length = m1 from by rw [ints_len]; exact HE1.out)
          clear hr hg
          go_wp2_with (first | (at_builtin; refine wpList_append_row rfl _ _ 26 rfl 3 i3 (.int .i64 0) 8 Tryd.underlying26 hi3 hz0 hz1 hz2 rfl w.heap.size _ (ints []) rfl HR.out ⟨g, o1, none⟩ m1 c1 (ints X1) rfl HL.out HN.out (ints_one _) (by simp [ints]; unfold maxLen; omega) (by simp [ints]; omega) hsz ?_; intro v1 w5 hrow1 hg5))
          go_roundw
          case rel => exact ⟨grown_own HG.out hg5.out (fun q hq => (HR.out.lt q hq).1), Nat.le_trans hsz hg5.out.size, .inr (.inl ⟨rfl, hrow1.out⟩)⟩
          case measure => simp [intOf]
        · have d0 := hg.cell HD1.out (by simp)
          have HR := Lib.hid hr
          have HN := Lib.hid (news_row HE2.out (fun j hj => hg.cell (HX2.out j hj) (by simp)))
          have HL := Lib.hid (show (ints X2).length = m2 from by rw [ints_len]; exact HE2.out)
          have HL1 := Lib.hid (show (ints X1).length = m1 from by rw [ints_len]; exact HE1.out)
          clear hr hg
          go_wp2_with (first | (at_builtin; refine wpList_append_row rfl _ _ 26 rfl 3 i3 (.int .i64 0) 8 Tryd.underlying26 hi3 hz0 hz1 hz2 rfl w.heap.size _ (ints X1) rfl HR.out ⟨g, o2, none⟩ m2 c2 (ints X2) rfl HL.out HN.out (ints_one _) (by rw [HL1.out]; unfold maxLen; omega) (by rw [HL1.out]; omega) hsz ?_; intro v1 w5 hrow1 hg5))
          go_roundw
          case rel => exact ⟨grown_own HG.out hg5.out (fun q hq => (HR.out.lt q hq).1), Nat.le_trans hsz hg5.out.size, .inr (.inr ⟨rfl, by rw [ints_app]; exact hrow1.out⟩)⟩
          case measure => simp [intOf]
        · have HR := Lib.hid hr
          clear hr hg
          go_wp2
          go_ret
          exact ⟨_, rfl, HR.out, HG.out⟩

end Go.Proofs.YtklkfphpoheanaaDoor
