/- The drawing of a value. -/
import Derived.Test.YtgmigloafcejdaaGreatDoorZ4
namespace Go.Proofs.YtgmigloafcejdaaGreatDoor
open Go.RowKit

/-- a leaf is told -/
theorem draw_leaf {w w1 : World} {rb r : Nat} {ao : Option Addr} {n cap p p1 c B : Nat} {o0 o1 o2 o3 o4 : Value} (s m : Int) (t : ByteArray) (_hb : Blk w1 r 27 [o0, o1, o2, o3, o4]) (hr : w.heap.size ≤ r) (hrb : rb < r) (hrd : Rd w1 rb ao n cap p1) (hp1 : p ≤ p1) (hp2 : p1 ≤ p + c) (hg : w.grownBy w1 (some rb)) (ht : t.size ≤ B) (hB : B ≤ 1048576)
    (hs1 : -9223372036854775808 ≤ s) (hs2 : s ≤ 9223372036854775807) (hn1 : -9223372036854775808 ≤ m) (hn2 : m ≤ 9223372036854775807) :
    DrawR w (set5 w1 r (.int .i64 s) (.int .i64 m) (.string t) (.slice none 0 0) (.slice none 0 0)) rb ao n cap p c B (.returned (.agg #[.int .i64 s, .int .i64 m, .string t, .slice none 0 0, .slice none 0 0])) :=
  ⟨.node s m t [] [], [.int .i64 s, .int .i64 m, .string t, .slice none 0 0, .slice none 0 0], p1, rfl, VX.leaf _ _ s m t (by omega) hs1 hs2 hn1 hn2, by simpa [bulk, bulkS, bulkK] using ht, hrd.kept (set5_grown _ _ _ _ _ _ _) (fun k hk => by cases hk; exact hrb), hp1, hp2, grown_into hg (set5_grown _ _ _ _ _ _ _) hr⟩


set_option maxRecDepth 100000 in
set_option maxHeartbeats 8000000 in
theorem val_step (rb : Nat) (ao : Option Addr) (n cap : Nat) (D : Int) (hd1 : 1 ≤ D) (hd : D ≤ 3) (c B : Nat) (hc : c ≤ 200) (hB : B ≤ 1000)
    (ih : D < 3 → ∀ (W : World) (p : Nat), Rd W rb ao n cap p → p + c ≤ 900000 → Calls Tryz.prog 28 #[.pointer (some ⟨rb, 0, none⟩), .int .i64 (D + 1)] W fun e w' => DrawR W w' rb ao n cap p c B e)
    (w : World) (p : Nat) (hr : Rd w rb ao n cap p) (hp : p + (5 + 4 * c) ≤ 900000) :
    Calls Tryz.prog 28 #[.pointer (some ⟨rb, 0, none⟩), .int .i64 D] w fun e w' => DrawR w w' rb ao n cap p (5 + 4 * c) (118 + 4 * B) e := by
  have HI := Lib.hid ih
  have hrb := hr.lt
  have HR := Lib.hid (show Rd (w.alloc (Obj.cells #[Value.int .i64 0, .int .i64 0, .string ⟨#[]⟩, .slice none 0 0, .slice none 0 0] 27)) rb ao n cap p from hr.kept (World.grownBy_alloc w _ none) (fun k hk => by cases hk))
  have HB := Lib.hid (show Blk (w.alloc (Obj.cells #[Value.int .i64 0, .int .i64 0, .string ⟨#[]⟩, .slice none 0 0, .slice none 0 0] 27)) w.heap.size 27 [.int .i64 0, .int .i64 0, .string ⟨#[]⟩, .slice none 0 0, .slice none 0 0] from Blk.new w 27 _)
  have HG := Lib.hid (show w.grownBy (w.alloc (Obj.cells #[Value.int .i64 0, .int .i64 0, .string ⟨#[]⟩, .slice none 0 0, .slice none 0 0] 27)) (some rb) from grown_alloc (grown_refl _ _) _)
  clear hr ih
  go_enter Tryz.func28, Tryz.ntmps28
  go_wp2_with fail
  generalize w.alloc (Obj.cells #[Value.int .i64 0, .int .i64 0, .string ⟨#[]⟩, .slice none 0 0, .slice none 0 0] 27) = W1 at HR HB HG ⊢
  refine (pick_any W1 rb ao n cap p HR.out (by omega) 9 (by omega) (by omega)).mono ?_
  rintro e w1 ⟨x, rfl, hx0, hx1, hr1, hg1⟩
  have HB1 := Lib.hid (HB.out.kept hg1 (by simp; omega))
  have HG1 := Lib.hid (grown_trans HG.out hg1)
  have HR1 := Lib.hid hr1
  clear HR HB HG hr1 hg1
  have r0 : w1.cell? ⟨w.heap.size, 0, none⟩ = some (.int .i64 0) := HB1.out.cell rfl
  have r1 : w1.cell? ⟨w.heap.size, 1, none⟩ = some (.int .i64 0) := HB1.out.cell rfl
  have r2 : w1.cell? ⟨w.heap.size, 2, none⟩ = some (.string ⟨#[]⟩) := HB1.out.cell rfl
  have r3 : w1.cell? ⟨w.heap.size, 3, none⟩ = some (.slice none 0 0) := HB1.out.cell rfl
  have r4 : w1.cell? ⟨w.heap.size, 4, none⟩ = some (.slice none 0 0) := HB1.out.cell rfl
  have g0 := HB1.out.frozen 0
  have g1 := HB1.out.frozen 1
  have g2 := HB1.out.frozen 2
  have g3 := HB1.out.frozen 3
  have g4 := HB1.out.frozen 4
  have hxs : x = 0 ∨ x = 1 ∨ x = 2 ∨ x = 3 ∨ x = 4 ∨ x = 5 ∨ x = 6 ∨ x = 7 ∨ x = 8 := by omega
  rcases hxs with rfl | rfl | rfl | rfl | rfl | rfl | rfl | rfl | rfl
  · go_wp2
    exact ⟨rfl, _, results_five Tryz.results28 _ _ w.heap.size 27 _ _ (set5_blk HB1.out (.int .i64 1) (.int .i64 0) (.string ⟨#[]⟩) (.slice none 0 0) (.slice none 0 0)) Tryz.underlying27 rfl info26s rfl, draw_leaf 1 0 ⟨#[]⟩ HB1.out (Nat.le_refl _) hrb HR1.out (by omega) (by omega) HG1.out (Nat.zero_le _) (by omega) (by omega) (by omega) (by omega) (by omega)⟩
  · clear r0 r1 r2 r3 r4 g0 g1 g2 g3 g4
    go_wp2_with fail
    refine (pick_any w1 rb ao n cap (p + 1) HR1.out (by omega) 2 (by omega) (by omega)).mono ?_
    rintro e w2 ⟨x, rfl, hx0, hx1, hr2, hg2⟩
    have HB2 := Lib.hid (HB1.out.kept hg2 (by simp; omega))
    have HG2 := Lib.hid (grown_trans HG1.out hg2)
    have HR2 := Lib.hid hr2
    clear HR1 HB1 HG1 hr2 hg2
    have r0 : w2.cell? ⟨w.heap.size, 0, none⟩ = some (.int .i64 0) := HB2.out.cell rfl
    have r1 : w2.cell? ⟨w.heap.size, 1, none⟩ = some (.int .i64 0) := HB2.out.cell rfl
    have r2 : w2.cell? ⟨w.heap.size, 2, none⟩ = some (.string ⟨#[]⟩) := HB2.out.cell rfl
    have r3 : w2.cell? ⟨w.heap.size, 3, none⟩ = some (.slice none 0 0) := HB2.out.cell rfl
    have r4 : w2.cell? ⟨w.heap.size, 4, none⟩ = some (.slice none 0 0) := HB2.out.cell rfl
    have g0 := HB2.out.frozen 0
    have g1 := HB2.out.frozen 1
    have g2 := HB2.out.frozen 2
    have g3 := HB2.out.frozen 3
    have g4 := HB2.out.frozen 4
    go_wp2
    exact ⟨rfl, _, results_five Tryz.results28 _ _ w.heap.size 27 _ _ (set5_blk HB2.out (.int .i64 2) (.int .i64 x) (.string ⟨#[]⟩) (.slice none 0 0) (.slice none 0 0)) Tryz.underlying27 rfl info26s rfl, draw_leaf 2 x ⟨#[]⟩ HB2.out (Nat.le_refl _) hrb HR2.out (by omega) (by omega) HG2.out (Nat.zero_le _) (by omega) (by omega) (by omega) (by omega) (by omega)⟩
  · clear r0 r1 r2 r3 r4 g0 g1 g2 g3 g4
    go_wp2_with fail
    refine (pick_any w1 rb ao n cap (p + 1) HR1.out (by omega) 9 (by omega) (by omega)).mono ?_
    rintro e w2 ⟨x, rfl, hx0, hx1, hr2, hg2⟩
    have HB2 := Lib.hid (HB1.out.kept hg2 (by simp; omega))
    have HG2 := Lib.hid (grown_trans HG1.out hg2)
    have HR2 := Lib.hid hr2
    clear HR1 HB1 HG1 hr2 hg2
    go_wp2_with fail
    refine (pick_any w2 rb ao n cap (p + 2) HR2.out (by omega) 200 (by omega) (by omega)).mono ?_
    rintro e w3 ⟨y, rfl, hy0, hy1, hr3, hg3⟩
    have HB3 := Lib.hid (HB2.out.kept hg3 (by simp; omega))
    have HG3 := Lib.hid (grown_trans HG2.out hg3)
    have HR3 := Lib.hid hr3
    clear HR2 HB2 HG2 hr3 hg3
    go_wp2_with fail
    have HC := Lib.hid (show Blk (w3.alloc (Obj.cells #[Value.int .i64 (x - 3), .int .i64 999999, .int .i64 (-999999), .int .i64 y] 3)) w3.heap.size 3 [.int .i64 (x - 3), .int .i64 999999, .int .i64 (-999999), .int .i64 y] from Blk.new w3 3 _)
    have HGA := Lib.hid (show w3.grownBy (w3.alloc (Obj.cells #[Value.int .i64 (x - 3), .int .i64 999999, .int .i64 (-999999), .int .i64 y] 3)) none from grown_alloc (grown_refl _ _) _)
    have hw3 : rb < w3.heap.size := HR3.out.lt
    generalize w3.alloc (Obj.cells #[Value.int .i64 (x - 3), .int .i64 999999, .int .i64 (-999999), .int .i64 y] 3) = w4 at HC HGA ⊢
    have HB4 := Lib.hid (HB3.out.kept HGA.out (by simp))
    have HG4 := Lib.hid (grown_trans HG3.out (grown_widen HGA.out))
    have HR4 := Lib.hid (HR3.out.kept HGA.out (fun k hk => by cases hk))
    clear HB3 HG3 HR3 HGA
    refine (pick_any w4 rb ao n cap (p + 3) HR4.out (by omega) 4 (by omega) (by omega)).mono ?_
    rintro e w5 ⟨z, rfl, hz0, hz1, hr5, hg5⟩
    have HB5 := Lib.hid (HB4.out.kept hg5 (by simp; omega))
    have HG5 := Lib.hid (grown_trans HG4.out hg5)
    have HR5 := Lib.hid hr5
    have HC5 := Lib.hid (HC.out.kept hg5 (by simp; omega))
    clear HR4 HB4 HG4 HC hr5 hg5
    obtain ⟨m, hm, hm1, hm2, hzn⟩ : ∃ m : Int, w5.cell? ⟨w3.heap.size, z.toNat, none⟩ = some (.int .i64 m) ∧ -1000000 ≤ m ∧ m ≤ 1000000 ∧ (z.toNat : Int) = z := by
      have hzs : z = 0 ∨ z = 1 ∨ z = 2 ∨ z = 3 := by omega
      rcases hzs with rfl | rfl | rfl | rfl
      · exact ⟨x - 3, HC5.out.cell rfl, by omega, by omega, rfl⟩
      · exact ⟨999999, HC5.out.cell rfl, by omega, by omega, rfl⟩
      · exact ⟨-999999, HC5.out.cell rfl, by omega, by omega, rfl⟩
      · exact ⟨y, HC5.out.cell rfl, by omega, by omega, rfl⟩
    clear HC5
    have r0 : w5.cell? ⟨w.heap.size, 0, none⟩ = some (.int .i64 0) := HB5.out.cell rfl
    have r1 : w5.cell? ⟨w.heap.size, 1, none⟩ = some (.int .i64 0) := HB5.out.cell rfl
    have r2 : w5.cell? ⟨w.heap.size, 2, none⟩ = some (.string ⟨#[]⟩) := HB5.out.cell rfl
    have r3 : w5.cell? ⟨w.heap.size, 3, none⟩ = some (.slice none 0 0) := HB5.out.cell rfl
    have r4 : w5.cell? ⟨w.heap.size, 4, none⟩ = some (.slice none 0 0) := HB5.out.cell rfl
    have g0 := HB5.out.frozen 0
    have g1 := HB5.out.frozen 1
    have g2 := HB5.out.frozen 2
    have g3 := HB5.out.frozen 3
    have g4 := HB5.out.frozen 4
    obtain ⟨j, rfl⟩ := Int.eq_ofNat_of_zero_le hz0
    have hj4 : j < 4 := by omega
    rw [show ((j : Int)).toNat = j from rfl] at hm
    clear hzn
    go_wp2
    exact ⟨rfl, _, results_five Tryz.results28 _ _ w.heap.size 27 _ _ (set5_blk HB5.out (.int .i64 3) (.int .i64 m) (.string ⟨#[]⟩) (.slice none 0 0) (.slice none 0 0)) Tryz.underlying27 rfl info26s rfl, draw_leaf 3 m ⟨#[]⟩ HB5.out (Nat.le_refl _) hrb HR5.out (by omega) (by omega) HG5.out (Nat.zero_le _) (by omega) (by omega) (by omega) (by omega) (by omega)⟩
  · clear r0 r1 r2 r3 r4 g0 g1 g2 g3 g4
    go_wp2_with fail
    refine (pick_any w1 rb ao n cap (p + 1) HR1.out (by omega) 9 (by omega) (by omega)).mono ?_
    rintro e w2 ⟨x, rfl, hx0, hx1, hr2, hg2⟩
    have HB2 := Lib.hid (HB1.out.kept hg2 (by simp; omega))
    have HG2 := Lib.hid (grown_trans HG1.out hg2)
    have HR2 := Lib.hid hr2
    clear HR1 HB1 HG1 hr2 hg2
    go_wp2_with fail
    refine (pick_any w2 rb ao n cap (p + 2) HR2.out (by omega) 200 (by omega) (by omega)).mono ?_
    rintro e w3 ⟨y, rfl, hy0, hy1, hr3, hg3⟩
    have HB3 := Lib.hid (HB2.out.kept hg3 (by simp; omega))
    have HG3 := Lib.hid (grown_trans HG2.out hg3)
    have HR3 := Lib.hid hr3
    clear HR2 HB2 HG2 hr3 hg3
    go_wp2_with fail
    have HC := Lib.hid (show Blk (w3.alloc (Obj.cells #[Value.int .i64 (x - 3), .int .i64 999999, .int .i64 (-999999), .int .i64 y] 3)) w3.heap.size 3 [.int .i64 (x - 3), .int .i64 999999, .int .i64 (-999999), .int .i64 y] from Blk.new w3 3 _)
    have HGA := Lib.hid (show w3.grownBy (w3.alloc (Obj.cells #[Value.int .i64 (x - 3), .int .i64 999999, .int .i64 (-999999), .int .i64 y] 3)) none from grown_alloc (grown_refl _ _) _)
    have hw3 : rb < w3.heap.size := HR3.out.lt
    generalize w3.alloc (Obj.cells #[Value.int .i64 (x - 3), .int .i64 999999, .int .i64 (-999999), .int .i64 y] 3) = w4 at HC HGA ⊢
    have HB4 := Lib.hid (HB3.out.kept HGA.out (by simp))
    have HG4 := Lib.hid (grown_trans HG3.out (grown_widen HGA.out))
    have HR4 := Lib.hid (HR3.out.kept HGA.out (fun k hk => by cases hk))
    clear HB3 HG3 HR3 HGA
    refine (pick_any w4 rb ao n cap (p + 3) HR4.out (by omega) 4 (by omega) (by omega)).mono ?_
    rintro e w5 ⟨z, rfl, hz0, hz1, hr5, hg5⟩
    have HB5 := Lib.hid (HB4.out.kept hg5 (by simp; omega))
    have HG5 := Lib.hid (grown_trans HG4.out hg5)
    have HR5 := Lib.hid hr5
    have HC5 := Lib.hid (HC.out.kept hg5 (by simp; omega))
    clear HR4 HB4 HG4 HC hr5 hg5
    obtain ⟨m, hm, hm1, hm2, hzn⟩ : ∃ m : Int, w5.cell? ⟨w3.heap.size, z.toNat, none⟩ = some (.int .i64 m) ∧ -1000000 ≤ m ∧ m ≤ 1000000 ∧ (z.toNat : Int) = z := by
      have hzs : z = 0 ∨ z = 1 ∨ z = 2 ∨ z = 3 := by omega
      rcases hzs with rfl | rfl | rfl | rfl
      · exact ⟨x - 3, HC5.out.cell rfl, by omega, by omega, rfl⟩
      · exact ⟨999999, HC5.out.cell rfl, by omega, by omega, rfl⟩
      · exact ⟨-999999, HC5.out.cell rfl, by omega, by omega, rfl⟩
      · exact ⟨y, HC5.out.cell rfl, by omega, by omega, rfl⟩
    clear HC5
    have r0 : w5.cell? ⟨w.heap.size, 0, none⟩ = some (.int .i64 0) := HB5.out.cell rfl
    have r1 : w5.cell? ⟨w.heap.size, 1, none⟩ = some (.int .i64 0) := HB5.out.cell rfl
    have r2 : w5.cell? ⟨w.heap.size, 2, none⟩ = some (.string ⟨#[]⟩) := HB5.out.cell rfl
    have r3 : w5.cell? ⟨w.heap.size, 3, none⟩ = some (.slice none 0 0) := HB5.out.cell rfl
    have r4 : w5.cell? ⟨w.heap.size, 4, none⟩ = some (.slice none 0 0) := HB5.out.cell rfl
    have g0 := HB5.out.frozen 0
    have g1 := HB5.out.frozen 1
    have g2 := HB5.out.frozen 2
    have g3 := HB5.out.frozen 3
    have g4 := HB5.out.frozen 4
    obtain ⟨j, rfl⟩ := Int.eq_ofNat_of_zero_le hz0
    have hj4 : j < 4 := by omega
    rw [show ((j : Int)).toNat = j from rfl] at hm
    clear hzn
    go_wp2
    exact ⟨rfl, _, results_five Tryz.results28 _ _ w.heap.size 27 _ _ (set5_blk HB5.out (.int .i64 3) (.int .i64 m) (.string ⟨#[]⟩) (.slice none 0 0) (.slice none 0 0)) Tryz.underlying27 rfl info26s rfl, draw_leaf 3 m ⟨#[]⟩ HB5.out (Nat.le_refl _) hrb HR5.out (by omega) (by omega) HG5.out (Nat.zero_le _) (by omega) (by omega) (by omega) (by omega) (by omega)⟩
  · clear r0 r1 r2 r3 r4 g0 g1 g2 g3 g4
    go_wp2_with fail
    refine (many_any w1 ⟨#[116]⟩ 16 (by decide) (by decide) (by decide)).mono ?_
    rintro e w2 ⟨t, rfl, htl, hw2⟩
    have hw2 := hw2.symm
    subst hw2
    go_wp2_with fail
    have HC := Lib.hid (show Blk (w1.alloc (Obj.cells #[Value.string ⟨#[]⟩, .string ⟨#[97]⟩, .string ⟨#[115, 109, 97, 108, 108]⟩, .string ⟨#[101, 117]⟩, .string ⟨#[119, 105, 116, 104, 32, 115, 112, 97, 99, 101]⟩, .string ⟨#[120, 123, 121, 58, 49, 125]⟩, .string t] 9)) w1.heap.size 9 (List.map Value.string [⟨#[]⟩, ⟨#[97]⟩, ⟨#[115, 109, 97, 108, 108]⟩, ⟨#[101, 117]⟩, ⟨#[119, 105, 116, 104, 32, 115, 112, 97, 99, 101]⟩, ⟨#[120, 123, 121, 58, 49, 125]⟩, t]) from Blk.new w1 9 _)
    have HGA := Lib.hid (show w1.grownBy (w1.alloc (Obj.cells #[Value.string ⟨#[]⟩, .string ⟨#[97]⟩, .string ⟨#[115, 109, 97, 108, 108]⟩, .string ⟨#[101, 117]⟩, .string ⟨#[119, 105, 116, 104, 32, 115, 112, 97, 99, 101]⟩, .string ⟨#[120, 123, 121, 58, 49, 125]⟩, .string t] 9)) none from grown_alloc (grown_refl _ _) _)
    have hw1 : rb < w1.heap.size := HR1.out.lt
    generalize w1.alloc (Obj.cells #[Value.string ⟨#[]⟩, .string ⟨#[97]⟩, .string ⟨#[115, 109, 97, 108, 108]⟩, .string ⟨#[101, 117]⟩, .string ⟨#[119, 105, 116, 104, 32, 115, 112, 97, 99, 101]⟩, .string ⟨#[120, 123, 121, 58, 49, 125]⟩, .string t] 9) = w2 at HC HGA ⊢
    have HB2 := Lib.hid (HB1.out.kept HGA.out (by simp))
    have HG2 := Lib.hid (grown_trans HG1.out (grown_widen HGA.out))
    have HR2 := Lib.hid (HR1.out.kept HGA.out (fun k hk => by cases hk))
    clear HB1 HG1 HR1 HGA
    refine (of_any w2 rb ao n cap (p + 1) HR2.out (by omega) w1.heap.size 7 7 (by omega) (by omega) (fun j => List.getD [⟨#[]⟩, ⟨#[97]⟩, ⟨#[115, 109, 97, 108, 108]⟩, ⟨#[101, 117]⟩, ⟨#[119, 105, 116, 104, 32, 115, 112, 97, 99, 101]⟩, ⟨#[120, 123, 121, 58, 49, 125]⟩, t] j ByteArray.empty) (by omega) (fun j hj => HC.out.text j (by simpa using hj))).mono ?_
    rintro e w3 ⟨j, hj, rfl, hr3, hg3⟩
    obtain ⟨y, hy, hyl⟩ : ∃ y : ByteArray, List.getD [⟨#[]⟩, ⟨#[97]⟩, ⟨#[115, 109, 97, 108, 108]⟩, ⟨#[101, 117]⟩, ⟨#[119, 105, 116, 104, 32, 115, 112, 97, 99, 101]⟩, ⟨#[120, 123, 121, 58, 49, 125]⟩, t] j ByteArray.empty = y ∧ y.size ≤ 100 := by
      have hjs : j = 0 ∨ j = 1 ∨ j = 2 ∨ j = 3 ∨ j = 4 ∨ j = 5 ∨ j = 6 := by omega
      rcases hjs with rfl | rfl | rfl | rfl | rfl | rfl | rfl
      · exact ⟨⟨#[]⟩, rfl, by decide⟩
      · exact ⟨⟨#[97]⟩, rfl, by decide⟩
      · exact ⟨⟨#[115, 109, 97, 108, 108]⟩, rfl, by decide⟩
      · exact ⟨⟨#[101, 117]⟩, rfl, by decide⟩
      · exact ⟨⟨#[119, 105, 116, 104, 32, 115, 112, 97, 99, 101]⟩, rfl, by decide⟩
      · exact ⟨⟨#[120, 123, 121, 58, 49, 125]⟩, rfl, by decide⟩
      · exact ⟨t, rfl, htl⟩
    rw [hy]
    have HB3 := Lib.hid (HB2.out.kept hg3 (by simp; omega))
    have HG3 := Lib.hid (grown_trans HG2.out hg3)
    have HR3 := Lib.hid hr3
    clear HR2 HB2 HG2 HC hr3 hg3 hy
    have r0 : w3.cell? ⟨w.heap.size, 0, none⟩ = some (.int .i64 0) := HB3.out.cell rfl
    have r1 : w3.cell? ⟨w.heap.size, 1, none⟩ = some (.int .i64 0) := HB3.out.cell rfl
    have r2 : w3.cell? ⟨w.heap.size, 2, none⟩ = some (.string ⟨#[]⟩) := HB3.out.cell rfl
    have r3 : w3.cell? ⟨w.heap.size, 3, none⟩ = some (.slice none 0 0) := HB3.out.cell rfl
    have r4 : w3.cell? ⟨w.heap.size, 4, none⟩ = some (.slice none 0 0) := HB3.out.cell rfl
    have g0 := HB3.out.frozen 0
    have g1 := HB3.out.frozen 1
    have g2 := HB3.out.frozen 2
    have g3 := HB3.out.frozen 3
    have g4 := HB3.out.frozen 4
    go_wp2
    exact ⟨rfl, _, results_five Tryz.results28 _ _ w.heap.size 27 _ _ (set5_blk HB3.out (.int .i64 4) (.int .i64 0) (.string y) (.slice none 0 0) (.slice none 0 0)) Tryz.underlying27 rfl info26s rfl, draw_leaf 4 0 y HB3.out (Nat.le_refl _) hrb HR3.out (by omega) (by omega) HG3.out (by omega) (by omega) (by omega) (by omega) (by omega) (by omega)⟩
  · clear r0 r1 r2 r3 r4 g0 g1 g2 g3 g4
    go_wp2_with fail
    refine (many_any w1 ⟨#[116]⟩ 16 (by decide) (by decide) (by decide)).mono ?_
    rintro e w2 ⟨t, rfl, htl, hw2⟩
    have hw2 := hw2.symm
    subst hw2
    go_wp2_with fail
    have HC := Lib.hid (show Blk (w1.alloc (Obj.cells #[Value.string ⟨#[]⟩, .string ⟨#[97]⟩, .string ⟨#[115, 109, 97, 108, 108]⟩, .string ⟨#[101, 117]⟩, .string ⟨#[119, 105, 116, 104, 32, 115, 112, 97, 99, 101]⟩, .string ⟨#[120, 123, 121, 58, 49, 125]⟩, .string t] 9)) w1.heap.size 9 (List.map Value.string [⟨#[]⟩, ⟨#[97]⟩, ⟨#[115, 109, 97, 108, 108]⟩, ⟨#[101, 117]⟩, ⟨#[119, 105, 116, 104, 32, 115, 112, 97, 99, 101]⟩, ⟨#[120, 123, 121, 58, 49, 125]⟩, t]) from Blk.new w1 9 _)
    have HGA := Lib.hid (show w1.grownBy (w1.alloc (Obj.cells #[Value.string ⟨#[]⟩, .string ⟨#[97]⟩, .string ⟨#[115, 109, 97, 108, 108]⟩, .string ⟨#[101, 117]⟩, .string ⟨#[119, 105, 116, 104, 32, 115, 112, 97, 99, 101]⟩, .string ⟨#[120, 123, 121, 58, 49, 125]⟩, .string t] 9)) none from grown_alloc (grown_refl _ _) _)
    have hw1 : rb < w1.heap.size := HR1.out.lt
    generalize w1.alloc (Obj.cells #[Value.string ⟨#[]⟩, .string ⟨#[97]⟩, .string ⟨#[115, 109, 97, 108, 108]⟩, .string ⟨#[101, 117]⟩, .string ⟨#[119, 105, 116, 104, 32, 115, 112, 97, 99, 101]⟩, .string ⟨#[120, 123, 121, 58, 49, 125]⟩, .string t] 9) = w2 at HC HGA ⊢
    have HB2 := Lib.hid (HB1.out.kept HGA.out (by simp))
    have HG2 := Lib.hid (grown_trans HG1.out (grown_widen HGA.out))
    have HR2 := Lib.hid (HR1.out.kept HGA.out (fun k hk => by cases hk))
    clear HB1 HG1 HR1 HGA
    refine (of_any w2 rb ao n cap (p + 1) HR2.out (by omega) w1.heap.size 7 7 (by omega) (by omega) (fun j => List.getD [⟨#[]⟩, ⟨#[97]⟩, ⟨#[115, 109, 97, 108, 108]⟩, ⟨#[101, 117]⟩, ⟨#[119, 105, 116, 104, 32, 115, 112, 97, 99, 101]⟩, ⟨#[120, 123, 121, 58, 49, 125]⟩, t] j ByteArray.empty) (by omega) (fun j hj => HC.out.text j (by simpa using hj))).mono ?_
    rintro e w3 ⟨j, hj, rfl, hr3, hg3⟩
    obtain ⟨y, hy, hyl⟩ : ∃ y : ByteArray, List.getD [⟨#[]⟩, ⟨#[97]⟩, ⟨#[115, 109, 97, 108, 108]⟩, ⟨#[101, 117]⟩, ⟨#[119, 105, 116, 104, 32, 115, 112, 97, 99, 101]⟩, ⟨#[120, 123, 121, 58, 49, 125]⟩, t] j ByteArray.empty = y ∧ y.size ≤ 100 := by
      have hjs : j = 0 ∨ j = 1 ∨ j = 2 ∨ j = 3 ∨ j = 4 ∨ j = 5 ∨ j = 6 := by omega
      rcases hjs with rfl | rfl | rfl | rfl | rfl | rfl | rfl
      · exact ⟨⟨#[]⟩, rfl, by decide⟩
      · exact ⟨⟨#[97]⟩, rfl, by decide⟩
      · exact ⟨⟨#[115, 109, 97, 108, 108]⟩, rfl, by decide⟩
      · exact ⟨⟨#[101, 117]⟩, rfl, by decide⟩
      · exact ⟨⟨#[119, 105, 116, 104, 32, 115, 112, 97, 99, 101]⟩, rfl, by decide⟩
      · exact ⟨⟨#[120, 123, 121, 58, 49, 125]⟩, rfl, by decide⟩
      · exact ⟨t, rfl, htl⟩
    rw [hy]
    have HB3 := Lib.hid (HB2.out.kept hg3 (by simp; omega))
    have HG3 := Lib.hid (grown_trans HG2.out hg3)
    have HR3 := Lib.hid hr3
    clear HR2 HB2 HG2 HC hr3 hg3 hy
    have r0 : w3.cell? ⟨w.heap.size, 0, none⟩ = some (.int .i64 0) := HB3.out.cell rfl
    have r1 : w3.cell? ⟨w.heap.size, 1, none⟩ = some (.int .i64 0) := HB3.out.cell rfl
    have r2 : w3.cell? ⟨w.heap.size, 2, none⟩ = some (.string ⟨#[]⟩) := HB3.out.cell rfl
    have r3 : w3.cell? ⟨w.heap.size, 3, none⟩ = some (.slice none 0 0) := HB3.out.cell rfl
    have r4 : w3.cell? ⟨w.heap.size, 4, none⟩ = some (.slice none 0 0) := HB3.out.cell rfl
    have g0 := HB3.out.frozen 0
    have g1 := HB3.out.frozen 1
    have g2 := HB3.out.frozen 2
    have g3 := HB3.out.frozen 3
    have g4 := HB3.out.frozen 4
    go_wp2
    exact ⟨rfl, _, results_five Tryz.results28 _ _ w.heap.size 27 _ _ (set5_blk HB3.out (.int .i64 4) (.int .i64 0) (.string y) (.slice none 0 0) (.slice none 0 0)) Tryz.underlying27 rfl info26s rfl, draw_leaf 4 0 y HB3.out (Nat.le_refl _) hrb HR3.out (by omega) (by omega) HG3.out (by omega) (by omega) (by omega) (by omega) (by omega) (by omega)⟩
  · by_cases hD : D < 3
    · have HID := Lib.hid (HI.out hD)
      obtain ⟨i26, hi26, hz0, hz1, hz2⟩ := info_parts info26
      have HII := Lib.hid (And.intro hi26 (And.intro hz0 (And.intro hz1 hz2)))
      clear HI r0 r1 r2 r3 r4 g0 g1 g2 g3 g4 hi26 hz0 hz1 hz2
      have hw1 : rb < w1.heap.size := HR1.out.lt
      have hww : w.heap.size < w1.heap.size := HB1.out.lt
      have HC := Lib.hid (show Blk (w1.alloc (Obj.cells #[Value.int .i64 5, .int .i64 0, .string ⟨#[]⟩, .slice none 0 0, .slice none 0 0] 27)) w1.heap.size 27 [.int .i64 5, .int .i64 0, .string ⟨#[]⟩, .slice none 0 0, .slice none 0 0] from Blk.new w1 27 _)
      have HGA := Lib.hid (show w1.grownBy (w1.alloc (Obj.cells #[Value.int .i64 5, .int .i64 0, .string ⟨#[]⟩, .slice none 0 0, .slice none 0 0] 27)) none from grown_alloc (grown_refl _ _) _)
      go_wp2_with fail
      generalize w1.alloc (Obj.cells #[Value.int .i64 5, .int .i64 0, .string ⟨#[]⟩, .slice none 0 0, .slice none 0 0] 27) = w2 at HC HGA ⊢
      have HB2 := Lib.hid (HB1.out.kept HGA.out (by simp))
      have HG2 := Lib.hid (grown_trans HG1.out (grown_widen HGA.out))
      have HR2 := Lib.hid (HR1.out.kept HGA.out (fun k hk => by cases hk))
      clear HB1 HG1 HR1 HGA
      obtain ⟨vb, hvb⟩ : ∃ vb, vb = w1.heap.size := ⟨_, rfl⟩
      rw [← hvb] at HC hw1 hww ⊢
      clear hvb
      refine (pick_any w2 rb ao n cap (p + 1) HR2.out (by omega) 4 (by omega) (by omega)).mono ?_
      rintro e w3 ⟨x, rfl, hx0, hx1, hr3, hg3⟩
      have HB3 := Lib.hid (HB2.out.kept hg3 (by simp; omega))
      have HC3 := Lib.hid (HC.out.kept hg3 (by simp; omega))
      have HG3 := Lib.hid (grown_trans HG2.out hg3)
      have HR3 := Lib.hid hr3
      clear HR2 HB2 HG2 HC hr3 hg3
      obtain ⟨m, rfl⟩ := Int.eq_ofNat_of_zero_le hx0
      have hm3 : m ≤ 3 := by omega
      clear hx0 hx1
      go_wp2
      go_loopw [6] (fun i wr => ∃ (k q : Nat) (ks : List VT) (sk : Value), i = .int .i64 (k : Int) ∧ k + ks.length ≤ 3 ∧ p ≤ q ∧ Hid (q ≤ p + 2 + ks.length * c) ∧ Hid (bulkK ks ≤ ks.length * B) ∧ Hid (Blk wr vb 27 [.int .i64 5, .int .i64 0, .string ⟨#[]⟩, .slice none 0 0, sk]) ∧ Hid (KidsIn wr (fun b => vb + 1 ≤ b) sk ks) ∧ Hid (Blk wr w.heap.size 27 [.int .i64 0, .int .i64 0, .string ⟨#[]⟩, .slice none 0 0, .slice none 0 0]) ∧ Hid (Rd wr rb ao n cap q) ∧ Hid (w.grownBy wr (some rb))) (fun i _ => (intOf i).toNat)
      case atStart => exact ⟨m, p + 2, [], .slice none 0 0, rfl, by simpa using hm3, by omega, Lib.hid (by simp), Lib.hid (by simp [bulkK]), HC3, Lib.hid (KidsIn.nil _ _), HB3, HR3, HG3⟩
      case round =>
        obtain ⟨k, q, ks, sk, rfl, hks, hpq, HQ, HBU, HV, HK, HB, HR, HG⟩ := hrel
        obtain ⟨ta, cp, rfl, hcp⟩ := HK.out.shape
        have HVB := Lib.hid HV.out.lt
        have HQ2 := Lib.hid (show q ≤ p + 2 + 3 * c from by
          have h1 := HQ.out
          have h2 : ks.length * c ≤ 3 * c := Nat.mul_le_mul_right _ (by omega)
          omega)
        by_cases h0 : k = 0
        · subst h0
          have v0 : wr.cell? ⟨vb, 0, none⟩ = some (.int .i64 5) := HV.out.cell rfl
          have v1 : wr.cell? ⟨vb, 1, none⟩ = some (.int .i64 0) := HV.out.cell rfl
          have v2 : wr.cell? ⟨vb, 2, none⟩ = some (.string ⟨#[]⟩) := HV.out.cell rfl
          have v3 : wr.cell? ⟨vb, 3, none⟩ = some (.slice none 0 0) := HV.out.cell rfl
          have v4 : wr.cell? ⟨vb, 4, none⟩ = some (.slice ta ks.length cp) := HV.out.cell rfl
          have r0 : wr.cell? ⟨w.heap.size, 0, none⟩ = some (.int .i64 0) := HB.out.cell rfl
          have r1 : wr.cell? ⟨w.heap.size, 1, none⟩ = some (.int .i64 0) := HB.out.cell rfl
          have r2 : wr.cell? ⟨w.heap.size, 2, none⟩ = some (.string ⟨#[]⟩) := HB.out.cell rfl
          have r3 : wr.cell? ⟨w.heap.size, 3, none⟩ = some (.slice none 0 0) := HB.out.cell rfl
          have r4 : wr.cell? ⟨w.heap.size, 4, none⟩ = some (.slice none 0 0) := HB.out.cell rfl
          have g0 := HB.out.frozen 0
          have g1 := HB.out.frozen 1
          have g2 := HB.out.frozen 2
          have g3 := HB.out.frozen 3
          have g4 := HB.out.frozen 4
          have HEND := Lib.hid (draw_group (w := w) (w1 := wr) (rb := rb) (r := w.heap.size) (ao := ao) (n := n) (cap := cap) (p := p) (p1 := q) (c := 5 + 4 * c) (B := 118 + 4 * B) (X := fun b => vb + 1 ≤ b) 5 0 ⟨#[]⟩ [] ks none ta 0 cp (Nat.le_refl _) hrb HR.out hpq (by have := HQ2.out; omega) HG.out HK.out (fun b hb => ⟨by omega, by omega⟩) (.inl rfl) (Nat.zero_le _) (by
            have h1 := HBU.out
            have h2 : ks.length * B ≤ 3 * B := Nat.mul_le_mul_right _ (by omega)
            rw [bulk]
            show 0 + (0 + 0) + (ks.length + bulkK ks) ≤ 118 + 4 * B
            omega) (by omega) (by omega) (by omega) (by omega) (by omega))
          have HBE := Lib.hid (set5_blk HB.out (.int .i64 5) (.int .i64 0) (.string ⟨#[]⟩) (.slice none 0 0) (.slice ta ks.length cp))
          clear HQ HBU HV HK HB HR HG HVB HQ2
          go_wp2
          exact ⟨rfl, _, results_five Tryz.results28 _ _ w.heap.size 27 _ _ HBE.out Tryz.underlying27 rfl info26s rfl, HEND.out⟩
        have hk1 : (0 : Int) < (k : Int) := by omega
        have HCA := Lib.hid (HID.out wr.drew q (HR.out.kept (grown_drew (grown_refl wr none)) (fun k hk => by cases hk)) (by have := HQ2.out; omega))
        have d4 : wr.cell? ⟨vb, 4, none⟩ = some (.slice ta ks.length cp) := HV.out.cell rfl
        have eD : IntKind.i64.wrap (D + 1) = D + 1 := by rw [IntKind.wrap_i64]; omega
        go_wp2
        go_region_law (first | (refine step_append_rowK (by rfl) (.tmp 54) (.tmp 59) 25 (by rfl) 27 i26 (.agg #[.int .i64 0, .int .i64 0, .string ⟨#[]⟩, .slice none 0 0, .slice none 0 0]) 80 Tryz.underlying25 HII.out.1 HII.out.2.1 HII.out.2.2.1 HII.out.2.2.2 rfl 0 _ ks.length css.flatten (by rfl) HRA.out ⟨w4.heap.size, 0, none⟩ 1 1 [c0, c1, c2, c3, c4] (by rfl) rfl (news_new _ _ _) HONE.out (by unfold maxLen; omega) (by omega) (Nat.zero_le _) ?_; intro v' w5 HR5 HG5 HO5; obtain ⟨ta', cp', rfl, hcp'⟩ := HR5.out.shape; have HV5 := Lib.hid (HV4.out.kept HG5.out HNE.out); have e4 : w5.cell? ⟨vb, 4, none⟩ = some (.slice ta ks.length cp) := HV5.out.cell rfl; have f4 := HV5.out.frozen 4) | (go_simp; go_at_call 28; refine HCA.out.mono ?_; rintro e w4 ⟨T, cs, q', rfl, hvx, hbT, hrd4, hq1, hq2, hg4⟩; obtain ⟨c0, c1, c2, c3, c4, rfl, hone⟩ := hvx.five; have d4' := hg4.cell (a := ⟨vb, 4, none⟩) d4 (by simp; omega); have HONE := Lib.hid hone; have HGR := Lib.hid (show wr.grownBy w4 (some rb) from grown_trans (grown_drew (grown_refl wr _)) hg4); obtain ⟨css, hcl, hrk, hxo, hkv⟩ := (HK.out.kept HGR.out (fun q hq hx => by cases hq; omega)); have HRA := Lib.hid (hrk.kept (World.grownBy_alloc w4 (Obj.cells #[c0, c1, c2, c3, c4] 27) none) (by simp)); have HV4 := Lib.hid ((HV.out.kept HGR.out (by simp; omega)).alloc (Obj.cells #[c0, c1, c2, c3, c4] 27)); have d4a : (w4.alloc (Obj.cells #[c0, c1, c2, c3, c4] 27)).cell? ⟨vb, 4, none⟩ = some (.slice ta ks.length cp) := HV4.out.cell rfl; have HNE := Lib.hid (show some vb ≠ (Value.slice ta ks.length cp).ownBlock from fun e => by have := hxo vb e.symm; omega); have HKV := Lib.hid (And.intro hcl (And.intro hxo hkv)); have HVX := Lib.hid hvx; have HR4 := Lib.hid hrd4; have HB4 := Lib.hid (HB.out.kept HGR.out (by simp; omega)); have HGW := Lib.hid (grown_trans HG.out HGR.out); have HBT := Lib.hid hbT; clear hone hg4 hrk hxo hkv hcl hvx hrd4 hbT))
        all_goals
          go_wp2
          go_roundw
          case rel =>
            have hal := World.grownBy_alloc w4 (Obj.cells #[c0, c1, c2, c3, c4] 27) none
            have hkids : KidsIn w5 (fun b => vb + 1 ≤ b) (.slice ta' (ks.length + 1) cp') (ks ++ [T]) := KidsIn.more (X := fun b => vb + 1 ≤ b) (Z := fun b => wr.heap.size ≤ b) HKV.out.1 HKV.out.2.1 (fun j k hj => (HKV.out.2.2 j k hj).kept (Kept.of_grown hal (fun q hq => by cases hq))) (HVX.out.kept (Kept.of_grown hal (fun q hq => by cases hq))) (fun b _ hb => ⟨by have := HVB.out; omega, fun e => by have := (HK.out.lt b e).2; omega⟩) HR5.out HG5.out HO5.out (fun q hq => by have h1 := HVB.out; have h2 := HGR.out.size; have h3 := hal.size; omega)
            have hown : ∀ q, (Value.slice ta ks.length cp).ownBlock = some q → vb + 1 ≤ q := HKV.out.2.1
            have hgs := grown_set (grown_refl w5 (some vb)) 4 (.slice ta' (ks.length + 1) cp')
            refine ⟨k - 1, q', ks ++ [T], .slice ta' (ks.length + 1) cp', by congr 1; omega, by simp; omega, by omega, Lib.hid ?_, Lib.hid ?_, Lib.hid (HV5.out.set 4 _), Lib.hid (hkids.kept hgs (fun q hq hx => by cases hq; omega)), Lib.hid (((HB4.out.alloc _).kept HG5.out (fun e => by have := hown _ e.symm; omega)).kept hgs (by simp; omega)), Lib.hid (((HR4.out.kept hal (fun k hk => by cases hk)).kept HG5.out (fun k hk => by have := hown k hk; omega)).kept hgs (fun k hk => by cases hk; omega)), Lib.hid (grown_into (grown_own (grown_alloc HGW.out _) HG5.out (fun q hq => by have := hown q hq; omega)) hgs (by omega))⟩
            · have h1 := HQ.out
              rw [List.length_append, List.length_singleton, Nat.add_mul]
              omega
            · have h1 := HBU.out
              have h2 := HBT.out
              rw [bulkK_app, List.length_append, List.length_singleton, Nat.add_mul]
              omega
          case measure => simp [intOf]; omega
    have hD' : (3 : Int) ≤ D := by omega
    clear r0 r1 r2 r3 r4 g0 g1 g2 g3 g4
    go_wp2_with fail
    refine (pick_any w1 rb ao n cap (p + 1) HR1.out (by omega) 5 (by omega) (by omega)).mono ?_
    rintro e w2 ⟨x, rfl, hx0, hx1, hr2, hg2⟩
    have HB2 := Lib.hid (HB1.out.kept hg2 (by simp; omega))
    have HG2 := Lib.hid (grown_trans HG1.out hg2)
    have HR2 := Lib.hid hr2
    clear HR1 HB1 HG1 hr2 hg2
    have r0 : w2.cell? ⟨w.heap.size, 0, none⟩ = some (.int .i64 0) := HB2.out.cell rfl
    have r1 : w2.cell? ⟨w.heap.size, 1, none⟩ = some (.int .i64 0) := HB2.out.cell rfl
    have r2 : w2.cell? ⟨w.heap.size, 2, none⟩ = some (.string ⟨#[]⟩) := HB2.out.cell rfl
    have r3 : w2.cell? ⟨w.heap.size, 3, none⟩ = some (.slice none 0 0) := HB2.out.cell rfl
    have r4 : w2.cell? ⟨w.heap.size, 4, none⟩ = some (.slice none 0 0) := HB2.out.cell rfl
    have g0 := HB2.out.frozen 0
    have g1 := HB2.out.frozen 1
    have g2 := HB2.out.frozen 2
    have g3 := HB2.out.frozen 3
    have g4 := HB2.out.frozen 4
    go_wp2
    exact ⟨rfl, _, results_five Tryz.results28 _ _ w.heap.size 27 _ _ (set5_blk HB2.out (.int .i64 3) (.int .i64 x) (.string ⟨#[]⟩) (.slice none 0 0) (.slice none 0 0)) Tryz.underlying27 rfl info26s rfl, draw_leaf 3 x ⟨#[]⟩ HB2.out (Nat.le_refl _) hrb HR2.out (by omega) (by omega) HG2.out (Nat.zero_le _) (by omega) (by omega) (by omega) (by omega) (by omega)⟩
  · by_cases hD : D < 3
    · have HID := Lib.hid (HI.out hD)
      obtain ⟨i26, hi26, hz0, hz1, hz2⟩ := info_parts info26
      have HII := Lib.hid (And.intro hi26 (And.intro hz0 (And.intro hz1 hz2)))
      clear hi26 hz0 hz1 hz2
      obtain ⟨i9, hi9, hz0, hz1, hz2⟩ := info_parts info9z
      have HI9 := Lib.hid (And.intro hi9 (And.intro hz0 (And.intro hz1 hz2)))
      clear HI r0 r1 r2 r3 r4 g0 g1 g2 g3 g4 hi9 hz0 hz1 hz2
      have hw1 : rb < w1.heap.size := HR1.out.lt
      have hww : w.heap.size < w1.heap.size := HB1.out.lt
      have HC := Lib.hid (show Blk ((w1.alloc (Obj.cells #[Value.int .i64 6, .int .i64 0, .string ⟨#[]⟩, .slice none 0 0, .slice none 0 0] 27)).alloc (Obj.cells #[Value.string ⟨#[97]⟩, .string ⟨#[98]⟩, .string ⟨#[115, 105, 122, 101]⟩, .string ⟨#[122, 111, 110, 101]⟩] 9)) w1.heap.size 27 [.int .i64 6, .int .i64 0, .string ⟨#[]⟩, .slice none 0 0, .slice none 0 0] from (Blk.new w1 27 [.int .i64 6, .int .i64 0, .string ⟨#[]⟩, .slice none 0 0, .slice none 0 0]).alloc _)
      have HN := Lib.hid (show Blk ((w1.alloc (Obj.cells #[Value.int .i64 6, .int .i64 0, .string ⟨#[]⟩, .slice none 0 0, .slice none 0 0] 27)).alloc (Obj.cells #[Value.string ⟨#[97]⟩, .string ⟨#[98]⟩, .string ⟨#[115, 105, 122, 101]⟩, .string ⟨#[122, 111, 110, 101]⟩] 9)) (w1.heap.size + 1) 9 (List.map Value.string [⟨#[97]⟩, ⟨#[98]⟩, ⟨#[115, 105, 122, 101]⟩, ⟨#[122, 111, 110, 101]⟩]) from by
        have := Blk.new (w1.alloc (Obj.cells #[Value.int .i64 6, .int .i64 0, .string ⟨#[]⟩, .slice none 0 0, .slice none 0 0] 27)) 9 (List.map Value.string [⟨#[97]⟩, ⟨#[98]⟩, ⟨#[115, 105, 122, 101]⟩, ⟨#[122, 111, 110, 101]⟩])
        simpa using this)
      have HGA := Lib.hid (show w1.grownBy ((w1.alloc (Obj.cells #[Value.int .i64 6, .int .i64 0, .string ⟨#[]⟩, .slice none 0 0, .slice none 0 0] 27)).alloc (Obj.cells #[Value.string ⟨#[97]⟩, .string ⟨#[98]⟩, .string ⟨#[115, 105, 122, 101]⟩, .string ⟨#[122, 111, 110, 101]⟩] 9)) none from grown_alloc (grown_alloc (grown_refl _ _) _) _)
      go_wp2
      generalize (w1.alloc (Obj.cells #[Value.int .i64 6, .int .i64 0, .string ⟨#[]⟩, .slice none 0 0, .slice none 0 0] 27)).alloc (Obj.cells #[Value.string ⟨#[97]⟩, .string ⟨#[98]⟩, .string ⟨#[115, 105, 122, 101]⟩, .string ⟨#[122, 111, 110, 101]⟩] 9) = w2 at HC HN HGA ⊢
      have HB2 := Lib.hid (HB1.out.kept HGA.out (by simp))
      have HG2 := Lib.hid (grown_trans HG1.out (grown_widen HGA.out))
      have HR2 := Lib.hid (HR1.out.kept HGA.out (fun k hk => by cases hk))
      clear HB1 HG1 HR1 HGA
      obtain ⟨vb, hvb⟩ : ∃ vb, vb = w1.heap.size := ⟨_, rfl⟩
      rw [← hvb] at HC HN hw1 hww ⊢
      clear hvb
      go_loopw [9] (fun i wr => ∃ (k q : Nat) (ns : List ByteArray) (ks : List VT) (sn sk : Value), i = .int .i64 (k : Int) ∧ k ≤ 4 ∧ p ≤ q ∧ ns.length ≤ k ∧ ks.length ≤ k ∧ Hid (q ≤ p + 1 + k + ks.length * c) ∧ Hid (bulkK ks ≤ ks.length * B) ∧ Hid (bulkS ns ≤ ns.length * 4) ∧ Hid (Blk wr vb 27 [.int .i64 6, .int .i64 0, .string ⟨#[]⟩, sn, sk]) ∧ Hid (Blk wr (vb + 1) 9 (List.map Value.string [⟨#[97]⟩, ⟨#[98]⟩, ⟨#[115, 105, 122, 101]⟩, ⟨#[122, 111, 110, 101]⟩])) ∧ Hid (Row wr (vb + 2) sn (txs ns)) ∧ Hid (KidsIn wr (fun b => vb + 2 ≤ b ∧ sn.ownBlock ≠ some b) sk ks) ∧ Hid (Blk wr w.heap.size 27 [.int .i64 0, .int .i64 0, .string ⟨#[]⟩, .slice none 0 0, .slice none 0 0]) ∧ Hid (Rd wr rb ao n cap q) ∧ Hid (w.grownBy wr (some rb))) (fun i _ => 4 - (intOf i).toNat)
      case atStart => exact ⟨0, p + 1, [], [], .slice none 0 0, .slice none 0 0, rfl, by omega, by omega, Nat.le_refl _, Nat.le_refl _, Lib.hid (by simp), Lib.hid (by simp [bulkK]), Lib.hid (by simp [bulkS]), HC, HN, Lib.hid (Row.nil _ _), Lib.hid (KidsIn.nil _ _), HB2, HR2, HG2⟩
      case round =>
        obtain ⟨k, q, ns, ks, sn, sk, rfl, hk4, hpq, hnk, hkk, HQ, HBU, HBS, HV, HN, HRW, HK, HB, HR, HG⟩ := hrel
        obtain ⟨ta, cp, rfl, hcp⟩ := HK.out.shape
        obtain ⟨an, cn, rfl, hcn, hlx⟩ := row_txs HRW.out
        have HLX := Lib.hid hlx
        have HVB := Lib.hid HN.out.lt
        have HQ2 := Lib.hid (show q ≤ p + 1 + k + k * c from by
          have h1 := HQ.out
          have h2 : ks.length * c ≤ k * c := Nat.mul_le_mul_right _ (by omega)
          omega)
        clear hlx
        by_cases hlt : k < 4
        case neg =>
          obtain rfl : k = 4 := by omega
          have v0 : wr.cell? ⟨vb, 0, none⟩ = some (.int .i64 6) := HV.out.cell rfl
          have v1 : wr.cell? ⟨vb, 1, none⟩ = some (.int .i64 0) := HV.out.cell rfl
          have v2 : wr.cell? ⟨vb, 2, none⟩ = some (.string ⟨#[]⟩) := HV.out.cell rfl
          have v3 : wr.cell? ⟨vb, 3, none⟩ = some (.slice an ns.length cn) := HV.out.cell rfl
          have v4 : wr.cell? ⟨vb, 4, none⟩ = some (.slice ta ks.length cp) := HV.out.cell rfl
          have r0 : wr.cell? ⟨w.heap.size, 0, none⟩ = some (.int .i64 0) := HB.out.cell rfl
          have r1 : wr.cell? ⟨w.heap.size, 1, none⟩ = some (.int .i64 0) := HB.out.cell rfl
          have r2 : wr.cell? ⟨w.heap.size, 2, none⟩ = some (.string ⟨#[]⟩) := HB.out.cell rfl
          have r3 : wr.cell? ⟨w.heap.size, 3, none⟩ = some (.slice none 0 0) := HB.out.cell rfl
          have r4 : wr.cell? ⟨w.heap.size, 4, none⟩ = some (.slice none 0 0) := HB.out.cell rfl
          have g0 := HB.out.frozen 0
          have g1 := HB.out.frozen 1
          have g2 := HB.out.frozen 2
          have g3 := HB.out.frozen 3
          have g4 := HB.out.frozen 4
          have HEND := Lib.hid (draw_group (w := w) (w1 := wr) (rb := rb) (r := w.heap.size) (ao := ao) (n := n) (cap := cap) (p := p) (p1 := q) (c := 5 + 4 * c) (B := 118 + 4 * B) (X := fun b => vb + 2 ≤ b ∧ (Value.slice an ns.length cn).ownBlock ≠ some b) 6 0 ⟨#[]⟩ ns ks an ta cn cp (Nat.le_refl _) hrb HR.out hpq (by have := HQ2.out; omega) HG.out HK.out (fun b hb => ⟨by have := hb.1; omega, by have := hb.1; omega⟩) (HLX.out.mono (fun b _ hb => ⟨by have := hb.1; omega, by have := hb.1; omega⟩)) hcn (by
            have h1 := HBU.out
            have h3 := HBS.out
            have h2 : ks.length * B ≤ 4 * B := Nat.mul_le_mul_right _ (by omega)
            rw [bulk]
            show 0 + (ns.length + bulkS ns) + (ks.length + bulkK ks) ≤ 118 + 4 * B
            omega) (by omega) (by omega) (by omega) (by omega) (by omega))
          have HBE := Lib.hid (set5_blk HB.out (.int .i64 6) (.int .i64 0) (.string ⟨#[]⟩) (.slice an ns.length cn) (.slice ta ks.length cp))
          clear HQ HBU HV HK HB HR HG HVB HQ2 HLX HN HRW HBS
          go_wp2
          exact ⟨rfl, _, results_five Tryz.results28 _ _ w.heap.size 27 _ _ HBE.out Tryz.underlying27 rfl info26s rfl, HEND.out⟩
        have hkI : (k : Int) < 4 := by omega
        have HQ3 := Lib.hid (show q + 1 + c ≤ p + (5 + 4 * c) ∧ q < 900000 from by
          have h1 := HQ2.out
          have h2 : k * c ≤ 3 * c := Nat.mul_le_mul_right _ (by omega)
          omega)
        go_wp2_with fail
        refine (pick_any wr rb ao n cap q HR.out (by have := HQ3.out; omega) 3 (by omega) (by omega)).mono ?_
        rintro e w3 ⟨x, rfl, hx0, hx1, hr3, hg3⟩
        have HB3 := Lib.hid (HB.out.kept hg3 (by simp; omega))
        have HV3 := Lib.hid (HV.out.kept hg3 (by simp; omega))
        have HN3 := Lib.hid (HN.out.kept hg3 (by simp; omega))
        have HRW3 := Lib.hid (HRW.out.kept hg3 (fun k hk e => by have := (HRW.out.lt k hk).1; cases e; omega))
        have HK3 := Lib.hid (HK.out.kept hg3 (fun q hq hx => by cases hq; have := hx.1; omega))
        have HG3 := Lib.hid (grown_trans HG.out hg3)
        have HR3 := Lib.hid hr3
        have HS3 := Lib.hid hg3.size
        clear HB HV HN HRW HK HG HR hr3 hg3 HLX
        by_cases hx : x = 0
        case neg =>
          have hxb : (x == 0) = false := by simpa using hx
          go_wp2
          go_roundw
          case rel =>
            exact ⟨k + 1, q + 1, ns, ks, .slice an ns.length cn, .slice ta ks.length cp, by go_num, by omega, by omega, by omega, by omega, Lib.hid (by have := HQ.out; omega), HBU, HBS, HV3, HN3, HRW3, HK3, HB3, HR3, HG3⟩
          case measure => simp [intOf]; omega
        subst hx
        obtain ⟨y, hy, hyl⟩ : ∃ y : ByteArray, List.getD [⟨#[97]⟩, ⟨#[98]⟩, ⟨#[115, 105, 122, 101]⟩, ⟨#[122, 111, 110, 101]⟩] k ByteArray.empty = y ∧ y.size ≤ 4 := by
          have hjs : k = 0 ∨ k = 1 ∨ k = 2 ∨ k = 3 := by omega
          rcases hjs with rfl | rfl | rfl | rfl
          · exact ⟨⟨#[97]⟩, rfl, by decide⟩
          · exact ⟨⟨#[98]⟩, rfl, by decide⟩
          · exact ⟨⟨#[115, 105, 122, 101]⟩, rfl, by decide⟩
          · exact ⟨⟨#[122, 111, 110, 101]⟩, rfl, by decide⟩
        have dn := HN3.out.text k (by simpa using hlt)
        rw [hy] at dn
        clear hy
        have d3 : w3.cell? ⟨vb, 3, none⟩ = some (.slice an ns.length cn) := HV3.out.cell rfl
        have HVA := Lib.hid (HV3.out.alloc (Obj.cells #[.string y] 9))
        have d3a : (w3.alloc (Obj.cells #[.string y] 9)).cell? ⟨vb, 3, none⟩ = some (.slice an ns.length cn) := HVA.out.cell rfl
        have HOWN := Lib.hid (show ∀ q, (Value.slice an ns.length cn).ownBlock = some q → vb + 2 ≤ q ∧ q < w3.heap.size from fun q hq => HRW3.out.lt q hq)
        go_wp2
        go_region_law (refine step_append_row2 (by rfl) (.tmp 79) (.tmp 84) 24 (by rfl) 9 i9 (.string ⟨#[]⟩) 16 Tryz.underlying24 HI9.out.1 HI9.out.2.1 HI9.out.2.2.1 HI9.out.2.2.2 rfl (vb + 2) _ (txs ns) (by rfl) (HRW3.out.alloc _) ⟨w3.heap.size, 0, none⟩ 1 1 [.string y] (by rfl) rfl (news_new w3 9 [.string y]) (txs_one [y]) (by rw [txs_len]; unfold maxLen; omega) (by rw [txs_len]; omega) (by have h1 := HVB.out; have h2 := HS3.out; have h3 := (World.grownBy_alloc w3 (Obj.cells #[.string y] 9) none).size; exact Nat.le_trans (by omega) h3) ?_; intro v' w5 HR5 HG5 HO5; have HR5' := Lib.hid (show Row w5 (vb + 2) v' (txs (ns ++ [y])) from by rw [txs_app]; exact HR5.out); obtain ⟨an', cn', hv', hcn', -⟩ := row_txs HR5'.out; have hv2 : v' = .slice an' (ns.length + 1) cn' := (by rw [hv', List.length_append, List.length_singleton]); subst hv2; clear hv' HR5; have HG5' := Lib.hid (show (w3.alloc (Obj.cells #[.string y] 9)).grownBy w5 (Value.slice an ns.length cn).ownBlock from ⟨HG5.out.os, HG5.out.tape, HG5.out.output, HG5.out.size, HG5.out.block⟩); clear HG5; have HV5 := Lib.hid (HVA.out.kept HG5'.out (fun e => by have := (HOWN.out _ e.symm).1; omega)); have e3 : w5.cell? ⟨vb, 3, none⟩ = some (.slice an ns.length cn) := HV5.out.cell rfl; have f3 := HV5.out.frozen 3)
        all_goals
          clear d3 d3a dn
          go_wp2
          clear e3 f3
          have hal := World.grownBy_alloc w3 (Obj.cells #[.string y] 9) none
          have hgs := grown_set (grown_refl w5 (some vb)) 3 (.slice an' (ns.length + 1) cn')
          have HV6 := Lib.hid (show Blk (w5.setCell ⟨vb, 3, none⟩ (.slice an' (ns.length + 1) cn')) vb 27 [.int .i64 6, .int .i64 0, .string ⟨#[]⟩, .slice an' (ns.length + 1) cn', .slice ta ks.length cp] from HV5.out.set 3 _)
          have HN6 := Lib.hid (((HN3.out.alloc _).kept HG5'.out (fun e => by have := (HOWN.out _ e.symm).1; omega)).kept hgs (by simp))
          have HB6 := Lib.hid (((HB3.out.alloc _).kept HG5'.out (fun e => by have := (HOWN.out _ e.symm).1; omega)).kept hgs (by simp; omega))
          have HR6 := Lib.hid (((HR3.out.kept hal (fun k hk => by cases hk)).kept HG5'.out (fun k hk => by have := (HOWN.out k hk).1; omega)).kept hgs (fun k hk => by cases hk; omega))
          have HG6 := Lib.hid (grown_into (grown_own (grown_alloc HG3.out _) HG5'.out (fun q hq => by have := (HOWN.out q hq).1; omega)) hgs (by omega))
          have HRW6 := Lib.hid (HR5'.out.kept hgs (fun k hk e => by have := (HR5'.out.lt k hk).1; cases e; omega))
          have HK6 := Lib.hid (show KidsIn (w5.setCell ⟨vb, 3, none⟩ (.slice an' (ns.length + 1) cn')) (fun b => vb + 2 ≤ b ∧ (Value.slice an' (ns.length + 1) cn').ownBlock ≠ some b) (.slice ta ks.length cp) ks from by
            have h1 : KidsIn (w3.alloc (Obj.cells #[.string y] 9)) (fun b => (vb + 2 ≤ b ∧ (Value.slice an ns.length cn).ownBlock ≠ some b) ∧ b < w3.heap.size) (.slice ta ks.length cp) ks := (HK3.out.mono (fun b hb hx => ⟨hx, hb⟩)).kept hal (fun q hq => by cases hq)
            have h2 := h1.kept HG5'.out (fun q hq hx => hx.1.2 hq)
            have h3 := h2.kept hgs (fun q hq hx => by cases hq; have := hx.1.1; omega)
            refine h3.mono (fun b _ hx => ⟨hx.1.1, fun e => ?_⟩)
            rcases HO5.out b e with h | h
            · exact hx.1.2 h
            · have h4 : (w3.alloc (Obj.cells #[.string y] 9)).heap.size ≤ b := h
              have h5 := hal.size
              have h6 := hx.2
              omega)
          have HS6 := Lib.hid (show vb + 2 ≤ (w5.setCell ⟨vb, 3, none⟩ (.slice an' (ns.length + 1) cn')).heap.size from by
            have h1 := HVB.out
            have h2 := HS3.out
            have h3 := hal.size
            have h4 := HG5'.out.size
            have h5 := hgs.size
            omega)
          generalize w5.setCell ⟨vb, 3, none⟩ (.slice an' (ns.length + 1) cn') = w6 at HV6 HN6 HB6 HR6 HG6 HRW6 HK6 HS6 ⊢
          clear hal hgs HV5 HG5' HO5 HR5' HV3 HN3 HB3 HR3 HG3 HRW3 HK3 HVA HOWN
          have HCA := Lib.hid (HID.out w6.drew (q + 1) (HR6.out.kept (grown_drew (grown_refl w6 none)) (fun k hk => by cases hk)) (by have := HQ3.out; omega))
          have d4 : w6.cell? ⟨vb, 4, none⟩ = some (.slice ta ks.length cp) := HV6.out.cell rfl
          have eD : IntKind.i64.wrap (D + 1) = D + 1 := by rw [IntKind.wrap_i64]; omega
          go_region_law (first | (refine step_append_rowK (by rfl) (.tmp 88) (.tmp 93) 25 (by rfl) 27 i26 (.agg #[.int .i64 0, .int .i64 0, .string ⟨#[]⟩, .slice none 0 0, .slice none 0 0]) 80 Tryz.underlying25 HII.out.1 HII.out.2.1 HII.out.2.2.1 HII.out.2.2.2 rfl 0 _ ks.length css.flatten (by rfl) HRA.out ⟨w7.heap.size, 0, none⟩ 1 1 [c0, c1, c2, c3, c4] (by rfl) rfl (news_new _ _ _) HONE.out (by unfold maxLen; omega) (by omega) (Nat.zero_le _) ?_; intro v' w8 HR8 HG8 HO8; obtain ⟨ta', cp', rfl, hcp'⟩ := HR8.out.shape; have HV8 := Lib.hid (HV7.out.kept HG8.out HNE.out); have e4 : w8.cell? ⟨vb, 4, none⟩ = some (.slice ta ks.length cp) := HV8.out.cell rfl; have f4 := HV8.out.frozen 4) | (go_simp; go_at_call 28; refine HCA.out.mono ?_; rintro e w7 ⟨T, cs, q', rfl, hvx, hbT, hrd7, hq1, hq2, hg7⟩; obtain ⟨c0, c1, c2, c3, c4, rfl, hone⟩ := hvx.five; have d4' := hg7.cell (a := ⟨vb, 4, none⟩) d4 (by simp; omega); have HONE := Lib.hid hone; have HGR := Lib.hid (show w6.grownBy w7 (some rb) from grown_trans (grown_drew (grown_refl w6 _)) hg7); obtain ⟨css, hcl, hrk, hxo, hkv⟩ := (HK6.out.kept HGR.out (fun q hq hx => by cases hq; have := hx.1; omega)); have HRA := Lib.hid (hrk.kept (World.grownBy_alloc w7 (Obj.cells #[c0, c1, c2, c3, c4] 27) none) (by simp)); have HV7 := Lib.hid ((HV6.out.kept HGR.out (by simp; omega)).alloc (Obj.cells #[c0, c1, c2, c3, c4] 27)); have d4a : (w7.alloc (Obj.cells #[c0, c1, c2, c3, c4] 27)).cell? ⟨vb, 4, none⟩ = some (.slice ta ks.length cp) := HV7.out.cell rfl; have HNE := Lib.hid (show some vb ≠ (Value.slice ta ks.length cp).ownBlock from fun e => by have := (hxo vb e.symm).1; omega); have HKV := Lib.hid (And.intro hcl (And.intro hxo hkv)); have HVX := Lib.hid hvx; have HR7 := Lib.hid hrd7; have HB7 := Lib.hid (HB6.out.kept HGR.out (by simp; omega)); have HN7 := Lib.hid (HN6.out.kept HGR.out (by simp; omega)); have HRW7 := Lib.hid (HRW6.out.kept HGR.out (fun k hk e => by have := (HRW6.out.lt k hk).1; cases e; omega)); have HGW := Lib.hid (grown_trans HG6.out HGR.out); have HBT := Lib.hid hbT; clear hone hg7 hrk hxo hkv hcl hvx hrd7 hbT))
          all_goals
            go_wp2
            go_roundw
            case rel =>
              have hal := World.grownBy_alloc w7 (Obj.cells #[c0, c1, c2, c3, c4] 27) none
              have hkids : KidsIn w8 (fun b => vb + 2 ≤ b ∧ (Value.slice an' (ns.length + 1) cn').ownBlock ≠ some b) (.slice ta' (ks.length + 1) cp') (ks ++ [T]) := KidsIn.more (X := fun b => vb + 2 ≤ b ∧ (Value.slice an' (ns.length + 1) cn').ownBlock ≠ some b) (Z := fun b => w6.heap.size ≤ b) HKV.out.1 HKV.out.2.1 (fun j k hj => (HKV.out.2.2 j k hj).kept (Kept.of_grown hal (fun q hq => by cases hq))) (HVX.out.kept (Kept.of_grown hal (fun q hq => by cases hq))) (fun b _ hb => ⟨⟨by have := HS6.out; omega, fun e => by have := (HRW6.out.lt b e).2; omega⟩, fun e => by have := (HK6.out.lt b e).2; omega⟩) HR8.out HG8.out HO8.out (fun q hq => ⟨by have h1 := HS6.out; have h2 := HGR.out.size; have h3 := hal.size; omega, fun e => by have h1 := (HRW7.out.lt q e).2; have h3 := hal.size; omega⟩)
              have hown : ∀ q, (Value.slice ta ks.length cp).ownBlock = some q → vb + 2 ≤ q ∧ (Value.slice an' (ns.length + 1) cn').ownBlock ≠ some q := HKV.out.2.1
              have hgs := grown_set (grown_refl w8 (some vb)) 4 (.slice ta' (ks.length + 1) cp')
              refine ⟨k + 1, q', ns ++ [y], ks ++ [T], .slice an' (ns.length + 1) cn', .slice ta' (ks.length + 1) cp', by go_num, by omega, by omega, by simp; omega, by simp; omega, Lib.hid ?_, Lib.hid ?_, Lib.hid ?_, Lib.hid (HV8.out.set 4 _), Lib.hid (((HN7.out.alloc _).kept HG8.out (fun e => by have := (hown _ e.symm).1; omega)).kept hgs (by simp)), Lib.hid (((HRW7.out.alloc _).kept HG8.out (fun k hk e => (hown k e.symm).2 hk)).kept hgs (fun k hk e => by have := (HRW7.out.lt k hk).1; cases e; omega)), Lib.hid (hkids.kept hgs (fun q hq hx => by cases hq; have := hx.1; omega)), Lib.hid (((HB7.out.alloc _).kept HG8.out (fun e => by have := (hown _ e.symm).1; omega)).kept hgs (by simp; omega)), Lib.hid (((HR7.out.kept hal (fun k hk => by cases hk)).kept HG8.out (fun k hk => by have := (hown k hk).1; omega)).kept hgs (fun k hk => by cases hk; omega)), Lib.hid (grown_into (grown_own (grown_alloc HGW.out _) HG8.out (fun q hq => by have := (hown q hq).1; omega)) hgs (by omega))⟩
              · have h1 := HQ.out
                rw [List.length_append, List.length_singleton, Nat.add_mul]
                omega
              · have h1 := HBU.out
                have h2 := HBT.out
                rw [bulkK_app, List.length_append, List.length_singleton, Nat.add_mul]
                omega
              · have h1 := HBS.out
                rw [bulkS_app, List.length_append, List.length_singleton]
                omega
            case measure => simp [intOf]; omega
    have hD' : (3 : Int) ≤ D := by omega
    clear r0 r1 r2 r3 r4 g0 g1 g2 g3 g4
    go_wp2_with fail
    refine (pick_any w1 rb ao n cap (p + 1) HR1.out (by omega) 5 (by omega) (by omega)).mono ?_
    rintro e w2 ⟨x, rfl, hx0, hx1, hr2, hg2⟩
    have HB2 := Lib.hid (HB1.out.kept hg2 (by simp; omega))
    have HG2 := Lib.hid (grown_trans HG1.out hg2)
    have HR2 := Lib.hid hr2
    clear HR1 HB1 HG1 hr2 hg2
    have r0 : w2.cell? ⟨w.heap.size, 0, none⟩ = some (.int .i64 0) := HB2.out.cell rfl
    have r1 : w2.cell? ⟨w.heap.size, 1, none⟩ = some (.int .i64 0) := HB2.out.cell rfl
    have r2 : w2.cell? ⟨w.heap.size, 2, none⟩ = some (.string ⟨#[]⟩) := HB2.out.cell rfl
    have r3 : w2.cell? ⟨w.heap.size, 3, none⟩ = some (.slice none 0 0) := HB2.out.cell rfl
    have r4 : w2.cell? ⟨w.heap.size, 4, none⟩ = some (.slice none 0 0) := HB2.out.cell rfl
    have g0 := HB2.out.frozen 0
    have g1 := HB2.out.frozen 1
    have g2 := HB2.out.frozen 2
    have g3 := HB2.out.frozen 3
    have g4 := HB2.out.frozen 4
    go_wp2
    exact ⟨rfl, _, results_five Tryz.results28 _ _ w.heap.size 27 _ _ (set5_blk HB2.out (.int .i64 3) (.int .i64 x) (.string ⟨#[]⟩) (.slice none 0 0) (.slice none 0 0)) Tryz.underlying27 rfl info26s rfl, draw_leaf 3 x ⟨#[]⟩ HB2.out (Nat.le_refl _) hrb HR2.out (by omega) (by omega) HG2.out (Nat.zero_le _) (by omega) (by omega) (by omega) (by omega) (by omega)⟩
  · clear r0 r1 r2 r3 r4 g0 g1 g2 g3 g4
    go_wp2_with fail
    refine (unknown_any w1).mono ?_
    rintro e w2 ⟨rfl, hg2⟩
    have HB2 := Lib.hid (HB1.out.kept hg2 (by simp))
    have HG2 := Lib.hid (grown_trans HG1.out (grown_widen hg2))
    have HR2 := Lib.hid (HR1.out.kept hg2 (fun k hk => by cases hk))
    clear HR1 HB1 HG1 hg2
    have r0 : w2.cell? ⟨w.heap.size, 0, none⟩ = some (.int .i64 0) := HB2.out.cell rfl
    have r1 : w2.cell? ⟨w.heap.size, 1, none⟩ = some (.int .i64 0) := HB2.out.cell rfl
    have r2 : w2.cell? ⟨w.heap.size, 2, none⟩ = some (.string ⟨#[]⟩) := HB2.out.cell rfl
    have r3 : w2.cell? ⟨w.heap.size, 3, none⟩ = some (.slice none 0 0) := HB2.out.cell rfl
    have r4 : w2.cell? ⟨w.heap.size, 4, none⟩ = some (.slice none 0 0) := HB2.out.cell rfl
    have g0 := HB2.out.frozen 0
    have g1 := HB2.out.frozen 1
    have g2 := HB2.out.frozen 2
    have g3 := HB2.out.frozen 3
    have g4 := HB2.out.frozen 4
    go_wp2
    exact ⟨rfl, _, results_five Tryz.results28 _ _ w.heap.size 27 _ _ (set5_blk HB2.out (.int .i64 7) (.int .i64 0) (.string ⟨#[]⟩) (.slice none 0 0) (.slice none 0 0)) Tryz.underlying27 rfl info26s rfl, draw_leaf 7 0 ⟨#[]⟩ HB2.out (Nat.le_refl _) hrb HR2.out (by omega) (by omega) HG2.out (Nat.zero_le _) (by omega) (by omega) (by omega) (by omega) (by omega)⟩
end Go.Proofs.YtgmigloafcejdaaGreatDoor
