/- Any value, spoilt or not. -/
import Derived.Test.YtgmigloafcejdaaGreatDoorZ9
namespace Go.Proofs.YtgmigloafcejdaaGreatDoor
open Go.RowKit

set_option maxRecDepth 100000 in
set_option maxHeartbeats 8000000 in
theorem any_any (rb : Nat) (ao : Option Addr) (n cap : Nat) (w : World) (p : Nat) (hr : Rd w rb ao n cap p) (hp : p + 500 ≤ 900000) :
    Calls Tryz.prog 37 #[.pointer (some ⟨rb, 0, none⟩)] w fun e w' => DrawR w w' rb ao n cap p 310 5000 e := by
  have hrb := hr.lt
  have HR := Lib.hid (show Rd (w.alloc (Obj.cells #[Value.int .i64 0, .int .i64 0, .string ⟨#[]⟩, .slice none 0 0, .slice none 0 0] 27)) rb ao n cap p from hr.kept (World.grownBy_alloc w _ none) (fun k hk => by cases hk))
  have HB := Lib.hid (show Blk (w.alloc (Obj.cells #[Value.int .i64 0, .int .i64 0, .string ⟨#[]⟩, .slice none 0 0, .slice none 0 0] 27)) w.heap.size 27 [.int .i64 0, .int .i64 0, .string ⟨#[]⟩, .slice none 0 0, .slice none 0 0] from Blk.new w 27 _)
  have HG := Lib.hid (show w.grownBy (w.alloc (Obj.cells #[Value.int .i64 0, .int .i64 0, .string ⟨#[]⟩, .slice none 0 0, .slice none 0 0] 27)) (some rb) from grown_alloc (grown_refl _ _) _)
  have HZ := Lib.hid (show (w.alloc (Obj.cells #[Value.int .i64 0, .int .i64 0, .string ⟨#[]⟩, .slice none 0 0, .slice none 0 0] 27)).heap.size = w.heap.size + 1 from by simp)
  clear hr
  go_enter Tryz.func37, Tryz.ntmps37
  go_wp2_with fail
  generalize w.alloc (Obj.cells #[Value.int .i64 0, .int .i64 0, .string ⟨#[]⟩, .slice none 0 0, .slice none 0 0] 27) = W1 at HR HB HG HZ ⊢
  refine (val1_any rb ao n cap W1 p HR.out (by omega)).mono ?_
  rintro e w2 ⟨T, cs, q, rfl, hvx, hbT, hrd2, hq1, hq2, hg2⟩
  obtain ⟨s, m, t, ns, ks, an, ak, cn, ck, rfl, rfl, -, -⟩ := (hvx.vin (base := 0) (fun b _ => Nat.zero_le _)).shp
  have HB2 := Lib.hid (HB.out.kept hg2 (by simp; omega))
  have HG2 := Lib.hid (grown_trans HG.out hg2)
  have hwz := HZ.out
  have hal := World.grownBy_alloc w2 (Obj.cells #[Value.int .i64 s, .int .i64 m, .string t, .slice an ns.length cn, .slice ak ks.length ck] 27) none
  have HV3 := Lib.hid (show Blk (w2.alloc (Obj.cells #[Value.int .i64 s, .int .i64 m, .string t, .slice an ns.length cn, .slice ak ks.length ck] 27)) w2.heap.size 27 [.int .i64 s, .int .i64 m, .string t, .slice an ns.length cn, .slice ak ks.length ck] from Blk.new w2 27 _)
  have HB3 := Lib.hid (HB2.out.alloc (Obj.cells #[Value.int .i64 s, .int .i64 m, .string t, .slice an ns.length cn, .slice ak ks.length ck] 27))
  have HG3 := Lib.hid (grown_alloc HG2.out (Obj.cells #[Value.int .i64 s, .int .i64 m, .string t, .slice an ns.length cn, .slice ak ks.length ck] 27))
  have HR3 := Lib.hid (hrd2.kept hal (fun k hk => by cases hk))
  have HVX3 := Lib.hid (hvx.kept (Kept.of_grown hal (fun q hq => by cases hq)))
  have HBT := Lib.hid hbT
  have hsz : W1.heap.size ≤ w2.heap.size := hg2.size
  clear HR HB HG HZ hvx hrd2 hg2 HB2 HG2 hal hbT
  go_wp2_with fail
  generalize w2.alloc (Obj.cells #[Value.int .i64 s, .int .i64 m, .string t, .slice an ns.length cn, .slice ak ks.length ck] 27) = w3 at HV3 HB3 HG3 HR3 HVX3 ⊢
  obtain ⟨vb, hvb⟩ : ∃ vb, vb = w2.heap.size := ⟨_, rfl⟩
  rw [← hvb] at HV3 hsz ⊢
  clear hvb
  refine (pick_any w3 rb ao n cap q HR3.out (by omega) 8 (by omega) (by omega)).mono ?_
  rintro e w4 ⟨z, rfl, hz0, hz1, hr4, hg4⟩
  have HV4 := Lib.hid (HV3.out.kept hg4 (by simp; omega))
  have HB4 := Lib.hid (HB3.out.kept hg4 (by simp; omega))
  have HG4 := Lib.hid (grown_trans HG3.out hg4)
  have HVX4 := Lib.hid (HVX3.out.kept (Kept.of_grown hg4 (fun k hk hx => by cases hk; omega)))
  have HR4 := Lib.hid hr4
  have hw4 : vb < w4.heap.size := HV4.out.lt
  clear HV3 HB3 HG3 HR3 HVX3 hr4 hg4
  have x0 : w4.cell? ⟨vb, 0, none⟩ = some (.int .i64 s) := HV4.out.cell rfl
  have x1 : w4.cell? ⟨vb, 1, none⟩ = some (.int .i64 m) := HV4.out.cell rfl
  have x2 : w4.cell? ⟨vb, 2, none⟩ = some (.string t) := HV4.out.cell rfl
  have x3 : w4.cell? ⟨vb, 3, none⟩ = some (.slice an ns.length cn) := HV4.out.cell rfl
  have x4 : w4.cell? ⟨vb, 4, none⟩ = some (.slice ak ks.length ck) := HV4.out.cell rfl
  by_cases hz : z = 0
  case neg =>
    have hzb : (z == 0) = false := by simpa using hz
    have r0 : w4.cell? ⟨w.heap.size, 0, none⟩ = some (.int .i64 0) := HB4.out.cell rfl
    have g0 := HB4.out.frozen 0
    have r1 : w4.cell? ⟨w.heap.size, 1, none⟩ = some (.int .i64 0) := HB4.out.cell rfl
    have g1 := HB4.out.frozen 1
    have r2 : w4.cell? ⟨w.heap.size, 2, none⟩ = some (.string ⟨#[]⟩) := HB4.out.cell rfl
    have g2 := HB4.out.frozen 2
    have r3 : w4.cell? ⟨w.heap.size, 3, none⟩ = some (.slice none 0 0) := HB4.out.cell rfl
    have g3 := HB4.out.frozen 3
    have r4 : w4.cell? ⟨w.heap.size, 4, none⟩ = some (.slice none 0 0) := HB4.out.cell rfl
    have g4 := HB4.out.frozen 4
    have HEND := Lib.hid (draw_vx (w := w) (w1 := w4) (rb := rb) (r := w.heap.size) (ao := ao) (n := n) (cap := cap) (p := p) (p1 := q + 1) (c := 310) (B := 5000) _ (.int .i64 s) (.int .i64 m) (.string t) (.slice an ns.length cn) (.slice ak ks.length ck) (HVX4.out.mono (fun b _ hb => ⟨by omega, by omega⟩)) (by have := HBT.out; omega) (Nat.le_refl _) hrb HR4.out (by omega) (by omega) HG4.out)
    have HBE := Lib.hid (set5_blk HB4.out (.int .i64 s) (.int .i64 m) (.string t) (.slice an ns.length cn) (.slice ak ks.length ck))
    clear HV4 HB4 HG4 HVX4 HR4 hz
    go_wp2
    exact ⟨rfl, _, results_five Tryz.results37 _ _ w.heap.size 27 _ _ HBE.out Tryz.underlying27 rfl info26s rfl, HEND.out⟩
  subst hz
  go_wp2_with fail
  refine (spoil_any rb ao n cap w4 (q + 1) HR4.out (by omega) _ _ (HVX4.out.vin (fun b _ => Nat.zero_le _)) (by have := HBT.out; omega)).mono ?_
  rintro e w5 ⟨T5, cs5, q5, rfl, hvx5, hbT5, hrd5, hq3, hq4, hg5⟩
  obtain ⟨s5, m5, t5, ns5, ks5, an5, ak5, cn5, ck5, rfl, rfl, -, -⟩ := (hvx5.vin (base := 0) (fun b _ => Nat.zero_le _)).shp
  have HB5 := Lib.hid (HB4.out.kept hg5 (by simp; omega))
  have HG5 := Lib.hid (grown_trans HG4.out hg5)
  have HR5 := Lib.hid hrd5
  have HVX5 := Lib.hid hvx5
  clear x0 x1 x2 x3 x4 hvx5 hrd5 hg5
  have r0 : w5.cell? ⟨w.heap.size, 0, none⟩ = some (.int .i64 0) := HB5.out.cell rfl
  have g0 := HB5.out.frozen 0
  have r1 : w5.cell? ⟨w.heap.size, 1, none⟩ = some (.int .i64 0) := HB5.out.cell rfl
  have g1 := HB5.out.frozen 1
  have r2 : w5.cell? ⟨w.heap.size, 2, none⟩ = some (.string ⟨#[]⟩) := HB5.out.cell rfl
  have g2 := HB5.out.frozen 2
  have r3 : w5.cell? ⟨w.heap.size, 3, none⟩ = some (.slice none 0 0) := HB5.out.cell rfl
  have g3 := HB5.out.frozen 3
  have r4 : w5.cell? ⟨w.heap.size, 4, none⟩ = some (.slice none 0 0) := HB5.out.cell rfl
  have g4 := HB5.out.frozen 4
  have HEND := Lib.hid (draw_vx (w := w) (w1 := w5) (rb := rb) (r := w.heap.size) (ao := ao) (n := n) (cap := cap) (p := p) (p1 := q5) (c := 310) (B := 5000) _ (.int .i64 s5) (.int .i64 m5) (.string t5) (.slice an5 ns5.length cn5) (.slice ak5 ks5.length ck5) (HVX5.out.mono (fun b _ hb => ⟨by omega, by omega⟩)) hbT5 (Nat.le_refl _) hrb HR5.out (by omega) (by omega) HG5.out)
  have HBE := Lib.hid (set5_blk HB5.out (.int .i64 s5) (.int .i64 m5) (.string t5) (.slice an5 ns5.length cn5) (.slice ak5 ks5.length ck5))
  clear HB5 HG5 HVX5 HR5 HV4 HB4 HG4 HVX4 HR4
  go_wp2
  exact ⟨rfl, _, results_five Tryz.results37 _ _ w.heap.size 27 _ _ HBE.out Tryz.underlying27 rfl info26s rfl, HEND.out⟩

end Go.Proofs.YtgmigloafcejdaaGreatDoor
