/- The spoiling of a value. -/
import Derived.Test.YtgmigloafcejdaaGreatDoorZ6
import Derived.Test.YtgmigloafcejdaaGreatDoorZ8
namespace Go.Proofs.YtgmigloafcejdaaGreatDoor
open Go.RowKit

/-- a value is drawn at depth 3, 2, 1 -/
theorem val3_any (rb : Nat) (ao : Option Addr) (n cap : Nat) (w : World) (p : Nat) (hr : Rd w rb ao n cap p) (hp : p + 5 ≤ 900000) : Calls Tryz.prog 28 #[.pointer (some ⟨rb, 0, none⟩), .int .i64 3] w fun e w' => DrawR w w' rb ao n cap p 5 118 e :=
  val_step rb ao n cap 3 (by omega) (by omega) 0 0 (by omega) (by omega) (fun h => absurd h (by omega)) w p hr (by omega)
theorem val2_any (rb : Nat) (ao : Option Addr) (n cap : Nat) (w : World) (p : Nat) (hr : Rd w rb ao n cap p) (hp : p + 25 ≤ 900000) : Calls Tryz.prog 28 #[.pointer (some ⟨rb, 0, none⟩), .int .i64 2] w fun e w' => DrawR w w' rb ao n cap p 25 590 e :=
  val_step rb ao n cap 2 (by omega) (by omega) 5 118 (by omega) (by omega) (fun _ W q hq hq2 => val3_any rb ao n cap W q hq hq2) w p hr (by omega)
theorem val1_any (rb : Nat) (ao : Option Addr) (n cap : Nat) (w : World) (p : Nat) (hr : Rd w rb ao n cap p) (hp : p + 105 ≤ 900000) : Calls Tryz.prog 28 #[.pointer (some ⟨rb, 0, none⟩), .int .i64 1] w fun e w' => DrawR w w' rb ao n cap p 105 2478 e :=
  val_step rb ao n cap 1 (by omega) (by omega) 25 590 (by omega) (by omega) (fun _ W q hq hq2 => val2_any rb ao n cap W q hq hq2) w p hr (by omega)

/-- a value that lies there is told -/
theorem draw_vx {w w1 : World} {rb r : Nat} {ao : Option Addr} {n cap p p1 c B : Nat} (T : VT) (c0 c1 c2 c3 c4 : Value) (hv : VX w1 (fun b => w.heap.size ≤ b ∧ b ≠ r) T [c0, c1, c2, c3, c4]) (hbu : bulk T ≤ B) (hr : w.heap.size ≤ r) (hrb : rb < r) (hrd : Rd w1 rb ao n cap p1) (hp1 : p ≤ p1) (hp2 : p1 ≤ p + c) (hg : w.grownBy w1 (some rb)) :
    DrawR w (set5 w1 r c0 c1 c2 c3 c4) rb ao n cap p c B (.returned (.agg #[c0, c1, c2, c3, c4])) :=
  ⟨T, [c0, c1, c2, c3, c4], p1, rfl, (hv.kept (Kept.of_grown (set5_grown _ _ _ _ _ _ _) (fun q hq hx => by cases hq; exact hx.2 rfl))).mono (fun b _ hx => hx.1), hbu, hrd.kept (set5_grown _ _ _ _ _ _ _) (fun k hk => by cases hk; exact hrb), hp1, hp2, grown_into hg (set5_grown _ _ _ _ _ _ _) hr⟩
/-- a list of one -/
theorem VX.nest {w : World} {X : Nat → Prop} {T : VT} {c0 c1 c2 c3 c4 : Value} {g : Nat} (hb : Blk w g 27 [c0, c1, c2, c3, c4]) (hX : X g) (hv : VX w X T [c0, c1, c2, c3, c4]) : VX w X (.node 5 0 ⟨#[]⟩ [] [T]) [.int .i64 5, .int .i64 0, .string ⟨#[]⟩, .slice none 0 0, .slice (some ⟨g, 0, none⟩) 1 1] := by
  refine VX.mk (an := none) (ak := some ⟨g, 0, none⟩) (cn := 0) (ck := 1) (ns := []) (ks := [T]) (fun _ => [c0, c1, c2, c3, c4]) (.inl rfl) (.inr ⟨g, 0, rfl, hX, fun j hj => ?_⟩) (fun j k hj => ?_) (Nat.le_refl _) (Nat.le_refl _) (by decide) (by simp) (by simp) (fun s hs => by cases hs) (by omega) (by omega) (by omega) (by omega)
  · obtain rfl : j = 0 := by simpa using hj
    exact ⟨c0, c1, c2, c3, c4, rfl, hb.cell (j := 0) rfl, hb.cell (j := 1) rfl, hb.cell (j := 2) rfl, hb.cell (j := 3) rfl, hb.cell (j := 4) rfl⟩
  · cases j with
    | zero =>
      obtain rfl : T = k := by simpa using hj
      exact hv
    | succ j => simp at hj
theorem bulk_nest (T : VT) : bulk (.node 5 0 ⟨#[]⟩ [] [T]) = 1 + bulk T := by
  rw [bulk]
  show 0 + (0 + 0) + (1 + (bulk T + 0)) = 1 + bulk T
  omega
/-- how long a row in a cell is -/
def lenAt (w : World) (b : Nat) : Nat := match w.cell? ⟨b, 4, none⟩ with | some (.slice _ l _) => l | _ => 0
theorem lenAt_of {w : World} {b l c : Nat} {a : Option Addr} (h : w.cell? ⟨b, 4, none⟩ = some (.slice a l c)) : lenAt w b = l := by simp [lenAt, h]

theorem VIn.shp {w : World} {base : Nat} {T : VT} {cs : List Value} (h : VIn w base T cs) : ∃ (s m : Int) (t : ByteArray) (ns : List ByteArray) (ks : List VT) (an ak : Option Addr) (cn ck : Nat), T = .node s m t ns ks ∧ cs = [.int .i64 s, .int .i64 m, .string t, .slice an ns.length cn, .slice ak ks.length ck] ∧ (-9223372036854775808 ≤ s ∧ s ≤ 9223372036854775807) ∧ (-9223372036854775808 ≤ m ∧ m ≤ 9223372036854775807) := by
  cases h with
  | mk CS hn hp hk hcn hck ht hcl hkl hsl hs1 hs2 hn1 hn2 => exact ⟨_, _, _, _, _, _, _, _, _, rfl, rfl, ⟨hs1, hs2⟩, ⟨hn1, hn2⟩⟩

theorem row_lx {w : World} {base : Nat} {an : Option Addr} {cn : Nat} {ns : List ByteArray} (h : Row w base (.slice an ns.length cn) (txs ns)) : LX w (fun b => base ≤ b ∧ (Value.slice an ns.length cn).ownBlock = some b) an ns := by
  obtain ⟨an', cn', he, -, hlx⟩ := row_txs h
  cases he
  exact hlx

set_option maxRecDepth 100000 in
set_option maxHeartbeats 8000000 in
theorem spoil_any (rb : Nat) (ao : Option Addr) (n cap : Nat) (w : World) (p : Nat) (hr : Rd w rb ao n cap p) (hp : p + 300 ≤ 900000) (T : VT) (cs : List Value) (h : VIn w 0 T cs) (hbu : bulk T ≤ 3000) :
    Calls Tryz.prog 72 #[.pointer (some ⟨rb, 0, none⟩), .agg cs.toArray] w fun e w' => DrawR w w' rb ao n cap p 200 5000 e := by
  have HVI := Lib.hid h
  obtain ⟨s, m, t, ns, ks, an, ak, cn, ck, rfl, rfl, -, -⟩ := h.shp
  have hrb := hr.lt
  have HB := Lib.hid (show Blk ((w.alloc (Obj.cells #[Value.int .i64 s, .int .i64 m, .string t, .slice an ns.length cn, .slice ak ks.length ck] 27)).alloc (Obj.cells #[Value.int .i64 0, .int .i64 0, .string ⟨#[]⟩, .slice none 0 0, .slice none 0 0] 27)) (w.heap.size + 1) 27 [.int .i64 0, .int .i64 0, .string ⟨#[]⟩, .slice none 0 0, .slice none 0 0] from by
    have := Blk.new (w.alloc (Obj.cells #[Value.int .i64 s, .int .i64 m, .string t, .slice an ns.length cn, .slice ak ks.length ck] 27)) 27 [.int .i64 0, .int .i64 0, .string ⟨#[]⟩, .slice none 0 0, .slice none 0 0]
    simpa using this)
  have HG := Lib.hid (show w.grownBy ((w.alloc (Obj.cells #[Value.int .i64 s, .int .i64 m, .string t, .slice an ns.length cn, .slice ak ks.length ck] 27)).alloc (Obj.cells #[Value.int .i64 0, .int .i64 0, .string ⟨#[]⟩, .slice none 0 0, .slice none 0 0] 27)) none from grown_alloc (grown_alloc (grown_refl _ _) _) _)
  have HZ := Lib.hid (show ((w.alloc (Obj.cells #[Value.int .i64 s, .int .i64 m, .string t, .slice an ns.length cn, .slice ak ks.length ck] 27)).alloc (Obj.cells #[Value.int .i64 0, .int .i64 0, .string ⟨#[]⟩, .slice none 0 0, .slice none 0 0] 27)).heap.size = w.heap.size + 2 from by simp)
  have HR := Lib.hid (hr.kept HG.out (fun k hk => by cases hk))
  clear h hr
  go_enter Tryz.func72, Tryz.ntmps72
  go_wp2_with fail
  generalize (w.alloc (Obj.cells #[Value.int .i64 s, .int .i64 m, .string t, .slice an ns.length cn, .slice ak ks.length ck] 27)).alloc (Obj.cells #[Value.int .i64 0, .int .i64 0, .string ⟨#[]⟩, .slice none 0 0, .slice none 0 0] 27) = W2 at HB HG HZ HR ⊢
  refine (copy_any w 0 _ _ HVI.out (by omega) W2 HG.out).mono ?_
  clear HVI
  rintro e w1 ⟨s, m, t, ns, ks, an, ak, cn, ck, hT, rfl, hrow, hkid, hvx, hg1⟩
  rw [hT, bulk] at hbu
  obtain ⟨s2, m2, t2, ns2, ks2, an2, ak2, cn2, ck2, hT2, hcs2, hs, hm⟩ := (hvx.vin (base := 0) (fun b _ => Nat.zero_le _)).shp
  rw [hT] at hT2
  cases hT2
  clear hcs2 hT hvx
  have HGO := Lib.hid (show w1.grownBy (w1.alloc (Obj.cells #[Value.int .i64 s, .int .i64 m, .string t, .slice an ns.length cn, .slice ak ks.length ck] 27)) none from grown_alloc (grown_refl _ _) _)
  have HX := Lib.hid (show Blk (w1.alloc (Obj.cells #[Value.int .i64 s, .int .i64 m, .string t, .slice an ns.length cn, .slice ak ks.length ck] 27)) w1.heap.size 27 [.int .i64 s, .int .i64 m, .string t, .slice an ns.length cn, .slice ak ks.length ck] from Blk.new w1 27 _)
  have HRW := Lib.hid (show Row (w1.alloc (Obj.cells #[Value.int .i64 s, .int .i64 m, .string t, .slice an ns.length cn, .slice ak ks.length ck] 27)) (w.heap.size + 2) (.slice an ns.length cn) (txs ns) from (hrow.base (by have := HZ.out; omega)).alloc _)
  obtain ⟨xb, hxb⟩ : ∃ xb, xb = w1.heap.size := ⟨_, rfl⟩
  have HK := Lib.hid (show KidsIn (w1.alloc (Obj.cells #[Value.int .i64 s, .int .i64 m, .string t, .slice an ns.length cn, .slice ak ks.length ck] 27)) (fun b => w.heap.size + 2 ≤ b ∧ (Value.slice an ns.length cn).ownBlock ≠ some b ∧ b ≠ xb) (.slice ak ks.length ck) ks from (hkid.mono (Y := fun b => w.heap.size + 2 ≤ b ∧ (Value.slice an ns.length cn).ownBlock ≠ some b ∧ b ≠ xb) (fun b hb hx => ⟨by have := hx.1; have := HZ.out; omega, hx.2, by omega⟩)).kept HGO.out (fun q hq => by cases hq))
  have HOW := Lib.hid (show ∀ q, (Value.slice an ns.length cn).ownBlock = some q → w.heap.size + 2 ≤ q ∧ q < xb from fun q hq => by have h1 := hrow.lt q hq; have h2 := HZ.out; omega)
  have HB2 := Lib.hid ((HB.out.kept hg1 (by simp)).alloc (Obj.cells #[Value.int .i64 s, .int .i64 m, .string t, .slice an ns.length cn, .slice ak ks.length ck] 27))
  have HR2 := Lib.hid ((HR.out.kept hg1 (fun k hk => by cases hk)).kept HGO.out (fun k hk => by cases hk))
  have HG2 := Lib.hid (show w.grownBy (w1.alloc (Obj.cells #[Value.int .i64 s, .int .i64 m, .string t, .slice an ns.length cn, .slice ak ks.length ck] 27)) (some rb) from grown_widen (grown_trans (grown_trans HG.out hg1) HGO.out))
  have hxl : w.heap.size + 2 ≤ xb := by have h1 := hg1.size; have h2 := HZ.out; omega
  clear HB HR HG hrow hkid hg1 HGO
  go_wp2_with fail
  generalize w1.alloc (Obj.cells #[Value.int .i64 s, .int .i64 m, .string t, .slice an ns.length cn, .slice ak ks.length ck] 27) = w2 at HX HRW HK HB2 HR2 HG2 ⊢
  rw [← hxb] at HX ⊢
  clear hxb HZ
  refine (pick_any w2 rb ao n cap p HR2.out (by omega) 8 (by omega) (by omega)).mono ?_
  rintro e w3 ⟨y, rfl, hy0, hy1, hr3, hg3⟩
  have HX3 := Lib.hid (HX.out.kept hg3 (by simp; omega))
  have HB3 := Lib.hid (HB2.out.kept hg3 (by simp; omega))
  have HRW3 := Lib.hid (HRW.out.kept hg3 (fun q hq e => by have h1 := (HOW.out q hq).1; cases e; omega))
  have HK3 := Lib.hid (HK.out.kept hg3 (fun q hq hx => by cases hq; have := hx.1; omega))
  have HG3 := Lib.hid (grown_trans HG2.out hg3)
  have HR3 := Lib.hid hr3
  clear HX HB2 HRW HK HG2 HR2 hr3 hg3
  obtain ⟨an3, cn3, he3, hcn, hlx⟩ := row_txs HRW3.out
  cases he3
  have HLX := Lib.hid hlx
  clear hlx
  have hys : y = 0 ∨ y = 1 ∨ y = 2 ∨ y = 3 ∨ y = 4 ∨ y = 5 ∨ 6 ≤ y := by omega
  rcases hys with rfl | rfl | rfl | rfl | rfl | rfl | hy6
  · go_wp2_with fail
    refine (pick_any w3 rb ao n cap (p + 1) HR3.out (by omega) 10 (by omega) (by omega)).mono ?_
    rintro e w4 ⟨z, rfl, hz0, hz1, hr4, hg4⟩
    have HX4 := Lib.hid (HX3.out.kept hg4 (by simp; omega))
    have HB4 := Lib.hid (HB3.out.kept hg4 (by simp; omega))
    have HRW4 := Lib.hid (HRW3.out.kept hg4 (fun q hq e => by have h1 := (HOW.out q hq).1; cases e; omega))
    have HK4 := Lib.hid (HK3.out.kept hg4 (fun q hq hx => by cases hq; have := hx.1; omega))
    have HG4 := Lib.hid (grown_trans HG3.out hg4)
    have HR4 := Lib.hid hr4
    clear HX3 HB3 HRW3 HK3 HG3 HR3 hr4 hg4 HLX
    have hne1 : ¬ xb = w.heap.size + 1 := by omega
    have hne2 : ¬ w.heap.size + 1 = xb := by omega
    have x0 : w4.cell? ⟨xb, 0, none⟩ = some (.int .i64 s) := HX4.out.cell rfl
    have x1 : w4.cell? ⟨xb, 1, none⟩ = some (.int .i64 m) := HX4.out.cell rfl
    have x2 : w4.cell? ⟨xb, 2, none⟩ = some (.string t) := HX4.out.cell rfl
    have x3 : w4.cell? ⟨xb, 3, none⟩ = some (.slice an ns.length cn) := HX4.out.cell rfl
    have x4 : w4.cell? ⟨xb, 4, none⟩ = some (.slice ak ks.length ck) := HX4.out.cell rfl
    have fx := HX4.out.frozen 0
    have r0 : w4.cell? ⟨w.heap.size + 1, 0, none⟩ = some (.int .i64 0) := HB4.out.cell rfl
    have g0 := HB4.out.frozen 0
    have r1 : w4.cell? ⟨w.heap.size + 1, 1, none⟩ = some (.int .i64 0) := HB4.out.cell rfl
    have g1 := HB4.out.frozen 1
    have r2 : w4.cell? ⟨w.heap.size + 1, 2, none⟩ = some (.string ⟨#[]⟩) := HB4.out.cell rfl
    have g2 := HB4.out.frozen 2
    have r3 : w4.cell? ⟨w.heap.size + 1, 3, none⟩ = some (.slice none 0 0) := HB4.out.cell rfl
    have g3 := HB4.out.frozen 3
    have r4 : w4.cell? ⟨w.heap.size + 1, 4, none⟩ = some (.slice none 0 0) := HB4.out.cell rfl
    have g4 := HB4.out.frozen 4
    have hgs := grown_set (grown_refl w4 (some xb)) 0 (.int .i64 (z - 1))
    have HLX4 := Lib.hid (row_lx HRW4.out)
    have HEND := Lib.hid (draw_group (w := w) (w1 := (w4.setCell ⟨xb, 0, none⟩ (.int .i64 (z - 1)))) (rb := rb) (r := w.heap.size + 1) (ao := ao) (n := n) (cap := cap) (p := p) (p1 := p + 2) (c := 200) (B := 5000) (X := fun b => w.heap.size + 2 ≤ b ∧ (Value.slice an ns.length cn).ownBlock ≠ some b ∧ b ≠ xb) (z - 1) (m) (t) (ns) (ks) (an) (ak) (cn) (ck) (by omega) (by omega) (HR4.out.kept hgs (fun k hk => by cases hk; omega)) (by omega) (by omega) (grown_into HG4.out hgs (by omega)) (HK4.out.kept hgs (fun q hq hx => by cases hq; exact hx.2.2 rfl)) (fun b hb => ⟨by have := hb.1; omega, by have := hb.1; omega⟩) ((HLX4.out.kept (Kept.of_grown hgs (fun q hq hx => by cases hq; have h1 := (HOW.out xb hx.2).2; omega))).mono (fun b _ hb => ⟨by have := hb.1; omega, by have := hb.1; omega⟩)) hcn (by rw [bulk]; omega) (by omega) (by omega) (by omega) hm.1 hm.2)
    have HBE := Lib.hid (set5_blk (HB4.out.kept hgs (by simp; omega)) (.int .i64 (z - 1)) (.int .i64 m) (.string t) (.slice an ns.length cn) (.slice ak ks.length ck))
    clear hgs HX4 HB4 HR4 HG4 HK4 HRW4 HLX4
    go_wp2
    exact ⟨rfl, _, results_five Tryz.results72 _ _ (w.heap.size + 1) 27 _ _ HBE.out Tryz.underlying27 rfl info26s rfl, HEND.out⟩
  · go_wp2_with fail
    have hal := World.grownBy_alloc w3 (Obj.cells #[Value.int .i64 (-1), .int .i64 2, .int .i64 1000000, .int .i64 1] 3) none
    have HC := Lib.hid (show Blk (w3.alloc (Obj.cells #[Value.int .i64 (-1), .int .i64 2, .int .i64 1000000, .int .i64 1] 3)) w3.heap.size 3 [.int .i64 (-1), .int .i64 2, .int .i64 1000000, .int .i64 1] from Blk.new w3 3 _)
    have HX4 := Lib.hid (HX3.out.alloc (Obj.cells #[Value.int .i64 (-1), .int .i64 2, .int .i64 1000000, .int .i64 1] 3))
    have HB4 := Lib.hid (HB3.out.alloc (Obj.cells #[Value.int .i64 (-1), .int .i64 2, .int .i64 1000000, .int .i64 1] 3))
    have HRW4 := Lib.hid (HRW3.out.alloc (Obj.cells #[Value.int .i64 (-1), .int .i64 2, .int .i64 1000000, .int .i64 1] 3))
    have HK4 := Lib.hid (HK3.out.kept hal (fun q hq => by cases hq))
    have HR4 := Lib.hid (HR3.out.kept hal (fun k hk => by cases hk))
    have HG4 := Lib.hid (grown_alloc HG3.out (Obj.cells #[Value.int .i64 (-1), .int .i64 2, .int .i64 1000000, .int .i64 1] 3))
    have hlt4 : xb < w3.heap.size ∧ rb < w3.heap.size := ⟨HX3.out.lt, HR3.out.lt⟩
    clear hal
    generalize w3.alloc (Obj.cells #[Value.int .i64 (-1), .int .i64 2, .int .i64 1000000, .int .i64 1] 3) = w4 at HC HX4 HB4 HRW4 HK4 HR4 HG4 ⊢
    clear HX3 HB3 HRW3 HK3 HR3 HG3 HLX
    refine (pick_any w4 rb ao n cap (p + 1) HR4.out (by omega) 4 (by omega) (by omega)).mono ?_
    rintro e w5 ⟨z, rfl, hz0, hz1, hr5, hg5⟩
    have HX5 := Lib.hid (HX4.out.kept hg5 (by simp; omega))
    have HB5 := Lib.hid (HB4.out.kept hg5 (by simp; omega))
    have HRW5 := Lib.hid (HRW4.out.kept hg5 (fun q hq e => by have h1 := (HOW.out q hq).1; cases e; omega))
    have HK5 := Lib.hid (HK4.out.kept hg5 (fun q hq hx => by cases hq; have := hx.1; omega))
    have HG5 := Lib.hid (grown_trans HG4.out hg5)
    have HR5 := Lib.hid hr5
    have HC5 := Lib.hid (HC.out.kept hg5 (by simp; omega))
    clear HX4 HB4 HRW4 HK4 HG4 HR4 hr5 hg5 HC
    obtain ⟨j, rfl⟩ := Int.eq_ofNat_of_zero_le hz0
    obtain ⟨m', hm', hm1', hm2'⟩ : ∃ m' : Int, w5.cell? ⟨w3.heap.size, j, none⟩ = some (.int .i64 m') ∧ -1000000 ≤ m' ∧ m' ≤ 1000000 := by
      have hjs : j = 0 ∨ j = 1 ∨ j = 2 ∨ j = 3 := by omega
      rcases hjs with rfl | rfl | rfl | rfl
      · exact ⟨-1, HC5.out.cell rfl, by omega, by omega⟩
      · exact ⟨2, HC5.out.cell rfl, by omega, by omega⟩
      · exact ⟨1000000, HC5.out.cell rfl, by omega, by omega⟩
      · exact ⟨1, HC5.out.cell rfl, by omega, by omega⟩
    have hj4 : j < 4 := by omega
    clear HC5
    have hne1 : ¬ xb = w.heap.size + 1 := by omega
    have hne2 : ¬ w.heap.size + 1 = xb := by omega
    have x0 : w5.cell? ⟨xb, 0, none⟩ = some (.int .i64 s) := HX5.out.cell rfl
    have x1 : w5.cell? ⟨xb, 1, none⟩ = some (.int .i64 m) := HX5.out.cell rfl
    have x2 : w5.cell? ⟨xb, 2, none⟩ = some (.string t) := HX5.out.cell rfl
    have x3 : w5.cell? ⟨xb, 3, none⟩ = some (.slice an ns.length cn) := HX5.out.cell rfl
    have x4 : w5.cell? ⟨xb, 4, none⟩ = some (.slice ak ks.length ck) := HX5.out.cell rfl
    have fx := HX5.out.frozen 1
    have r0 : w5.cell? ⟨w.heap.size + 1, 0, none⟩ = some (.int .i64 0) := HB5.out.cell rfl
    have g0 := HB5.out.frozen 0
    have r1 : w5.cell? ⟨w.heap.size + 1, 1, none⟩ = some (.int .i64 0) := HB5.out.cell rfl
    have g1 := HB5.out.frozen 1
    have r2 : w5.cell? ⟨w.heap.size + 1, 2, none⟩ = some (.string ⟨#[]⟩) := HB5.out.cell rfl
    have g2 := HB5.out.frozen 2
    have r3 : w5.cell? ⟨w.heap.size + 1, 3, none⟩ = some (.slice none 0 0) := HB5.out.cell rfl
    have g3 := HB5.out.frozen 3
    have r4 : w5.cell? ⟨w.heap.size + 1, 4, none⟩ = some (.slice none 0 0) := HB5.out.cell rfl
    have g4 := HB5.out.frozen 4
    have hgs := grown_set (grown_refl w5 (some xb)) 1 (.int .i64 m')
    have HLX5 := Lib.hid (row_lx HRW5.out)
    have HEND := Lib.hid (draw_group (w := w) (w1 := (w5.setCell ⟨xb, 1, none⟩ (.int .i64 m'))) (rb := rb) (r := w.heap.size + 1) (ao := ao) (n := n) (cap := cap) (p := p) (p1 := p + 2) (c := 200) (B := 5000) (X := fun b => w.heap.size + 2 ≤ b ∧ (Value.slice an ns.length cn).ownBlock ≠ some b ∧ b ≠ xb) (s) (m') (t) (ns) (ks) (an) (ak) (cn) (ck) (by omega) (by omega) (HR5.out.kept hgs (fun k hk => by cases hk; omega)) (by omega) (by omega) (grown_into HG5.out hgs (by omega)) (HK5.out.kept hgs (fun q hq hx => by cases hq; exact hx.2.2 rfl)) (fun b hb => ⟨by have := hb.1; omega, by have := hb.1; omega⟩) ((HLX5.out.kept (Kept.of_grown hgs (fun q hq hx => by cases hq; have h1 := (HOW.out xb hx.2).2; omega))).mono (fun b _ hb => ⟨by have := hb.1; omega, by have := hb.1; omega⟩)) hcn (by rw [bulk]; omega) (by omega) hs.1 hs.2 (by omega) (by omega))
    have HBE := Lib.hid (set5_blk (HB5.out.kept hgs (by simp; omega)) (.int .i64 s) (.int .i64 m') (.string t) (.slice an ns.length cn) (.slice ak ks.length ck))
    clear hgs HX5 HB5 HR5 HG5 HK5 HRW5 HLX5
    go_wp2
    exact ⟨rfl, _, results_five Tryz.results72 _ _ (w.heap.size + 1) 27 _ _ HBE.out Tryz.underlying27 rfl info26s rfl, HEND.out⟩
  · go_wp2_with fail
    refine (many_any w3 ⟨#[116]⟩ 17 (by decide) (by decide) (by decide)).mono ?_
    rintro e w9 ⟨tt, rfl, htl, hw9⟩
    have hw9 := hw9.symm
    subst hw9
    go_wp2_with fail
    have hal := World.grownBy_alloc w3 (Obj.cells #[Value.string ⟨#[120]⟩, .string ⟨#[34]⟩, .string ⟨#[10]⟩, .string tt] 9) none
    have HC := Lib.hid (show Blk (w3.alloc (Obj.cells #[Value.string ⟨#[120]⟩, .string ⟨#[34]⟩, .string ⟨#[10]⟩, .string tt] 9)) w3.heap.size 9 (List.map Value.string [⟨#[120]⟩, ⟨#[34]⟩, ⟨#[10]⟩, tt]) from Blk.new w3 9 _)
    have HX4 := Lib.hid (HX3.out.alloc (Obj.cells #[Value.string ⟨#[120]⟩, .string ⟨#[34]⟩, .string ⟨#[10]⟩, .string tt] 9))
    have HB4 := Lib.hid (HB3.out.alloc (Obj.cells #[Value.string ⟨#[120]⟩, .string ⟨#[34]⟩, .string ⟨#[10]⟩, .string tt] 9))
    have HRW4 := Lib.hid (HRW3.out.alloc (Obj.cells #[Value.string ⟨#[120]⟩, .string ⟨#[34]⟩, .string ⟨#[10]⟩, .string tt] 9))
    have HK4 := Lib.hid (HK3.out.kept hal (fun q hq => by cases hq))
    have HR4 := Lib.hid (HR3.out.kept hal (fun k hk => by cases hk))
    have HG4 := Lib.hid (grown_alloc HG3.out (Obj.cells #[Value.string ⟨#[120]⟩, .string ⟨#[34]⟩, .string ⟨#[10]⟩, .string tt] 9))
    have hlt4 : xb < w3.heap.size ∧ rb < w3.heap.size := ⟨HX3.out.lt, HR3.out.lt⟩
    clear hal
    generalize w3.alloc (Obj.cells #[Value.string ⟨#[120]⟩, .string ⟨#[34]⟩, .string ⟨#[10]⟩, .string tt] 9) = w4 at HC HX4 HB4 HRW4 HK4 HR4 HG4 ⊢
    clear HX3 HB3 HRW3 HK3 HR3 HG3 HLX
    refine (of_any w4 rb ao n cap (p + 1) HR4.out (by omega) w3.heap.size 4 4 (by omega) (by omega) (fun j => List.getD [⟨#[120]⟩, ⟨#[34]⟩, ⟨#[10]⟩, tt] j ByteArray.empty) (by omega) (fun j hj => HC.out.text j (by simpa using hj))).mono ?_
    rintro e w5 ⟨j, hj, rfl, hr5, hg5⟩
    obtain ⟨y, hy, hyl⟩ : ∃ y : ByteArray, List.getD [⟨#[120]⟩, ⟨#[34]⟩, ⟨#[10]⟩, tt] j ByteArray.empty = y ∧ y.size ≤ 100 := by
      have hjs : j = 0 ∨ j = 1 ∨ j = 2 ∨ j = 3 := by omega
      rcases hjs with rfl | rfl | rfl | rfl
      · exact ⟨⟨#[120]⟩, rfl, by decide⟩
      · exact ⟨⟨#[34]⟩, rfl, by decide⟩
      · exact ⟨⟨#[10]⟩, rfl, by decide⟩
      · exact ⟨tt, rfl, htl⟩
    rw [hy]
    have HX5 := Lib.hid (HX4.out.kept hg5 (by simp; omega))
    have HB5 := Lib.hid (HB4.out.kept hg5 (by simp; omega))
    have HRW5 := Lib.hid (HRW4.out.kept hg5 (fun q hq e => by have h1 := (HOW.out q hq).1; cases e; omega))
    have HK5 := Lib.hid (HK4.out.kept hg5 (fun q hq hx => by cases hq; have := hx.1; omega))
    have HG5 := Lib.hid (grown_trans HG4.out hg5)
    have HR5 := Lib.hid hr5
    clear HX4 HB4 HRW4 HK4 HG4 HR4 hr5 hg5 HC hy
    have hne1 : ¬ xb = w.heap.size + 1 := by omega
    have hne2 : ¬ w.heap.size + 1 = xb := by omega
    have x0 : w5.cell? ⟨xb, 0, none⟩ = some (.int .i64 s) := HX5.out.cell rfl
    have x1 : w5.cell? ⟨xb, 1, none⟩ = some (.int .i64 m) := HX5.out.cell rfl
    have x2 : w5.cell? ⟨xb, 2, none⟩ = some (.string t) := HX5.out.cell rfl
    have x3 : w5.cell? ⟨xb, 3, none⟩ = some (.slice an ns.length cn) := HX5.out.cell rfl
    have x4 : w5.cell? ⟨xb, 4, none⟩ = some (.slice ak ks.length ck) := HX5.out.cell rfl
    have fx := HX5.out.frozen 2
    have r0 : w5.cell? ⟨w.heap.size + 1, 0, none⟩ = some (.int .i64 0) := HB5.out.cell rfl
    have g0 := HB5.out.frozen 0
    have r1 : w5.cell? ⟨w.heap.size + 1, 1, none⟩ = some (.int .i64 0) := HB5.out.cell rfl
    have g1 := HB5.out.frozen 1
    have r2 : w5.cell? ⟨w.heap.size + 1, 2, none⟩ = some (.string ⟨#[]⟩) := HB5.out.cell rfl
    have g2 := HB5.out.frozen 2
    have r3 : w5.cell? ⟨w.heap.size + 1, 3, none⟩ = some (.slice none 0 0) := HB5.out.cell rfl
    have g3 := HB5.out.frozen 3
    have r4 : w5.cell? ⟨w.heap.size + 1, 4, none⟩ = some (.slice none 0 0) := HB5.out.cell rfl
    have g4 := HB5.out.frozen 4
    have hgs := grown_set (grown_refl w5 (some xb)) 2 (.string y)
    have HLX5 := Lib.hid (row_lx HRW5.out)
    have HEND := Lib.hid (draw_group (w := w) (w1 := (w5.setCell ⟨xb, 2, none⟩ (.string y))) (rb := rb) (r := w.heap.size + 1) (ao := ao) (n := n) (cap := cap) (p := p) (p1 := p + 2) (c := 200) (B := 5000) (X := fun b => w.heap.size + 2 ≤ b ∧ (Value.slice an ns.length cn).ownBlock ≠ some b ∧ b ≠ xb) (s) (m) (y) (ns) (ks) (an) (ak) (cn) (ck) (by omega) (by omega) (HR5.out.kept hgs (fun k hk => by cases hk; omega)) (by omega) (by omega) (grown_into HG5.out hgs (by omega)) (HK5.out.kept hgs (fun q hq hx => by cases hq; exact hx.2.2 rfl)) (fun b hb => ⟨by have := hb.1; omega, by have := hb.1; omega⟩) ((HLX5.out.kept (Kept.of_grown hgs (fun q hq hx => by cases hq; have h1 := (HOW.out xb hx.2).2; omega))).mono (fun b _ hb => ⟨by have := hb.1; omega, by have := hb.1; omega⟩)) hcn (by rw [bulk]; omega) (by omega) hs.1 hs.2 hm.1 hm.2)
    have HBE := Lib.hid (set5_blk (HB5.out.kept hgs (by simp; omega)) (.int .i64 s) (.int .i64 m) (.string y) (.slice an ns.length cn) (.slice ak ks.length ck))
    clear hgs HX5 HB5 HR5 HG5 HK5 HRW5 HLX5
    go_wp2
    exact ⟨rfl, _, results_five Tryz.results72 _ _ (w.heap.size + 1) 27 _ _ HBE.out Tryz.underlying27 rfl info26s rfl, HEND.out⟩
  · have hal := World.grownBy_alloc w3 (Obj.cells #[Value.string ⟨#[97]⟩, .string ⟨#[]⟩, .string ⟨#[66]⟩, .string ⟨#[116, 111, 111, 108, 111, 110, 103, 56]⟩] 9) none
    have HC := Lib.hid (show Blk (w3.alloc (Obj.cells #[Value.string ⟨#[97]⟩, .string ⟨#[]⟩, .string ⟨#[66]⟩, .string ⟨#[116, 111, 111, 108, 111, 110, 103, 56]⟩] 9)) w3.heap.size 9 (List.map Value.string [⟨#[97]⟩, ⟨#[]⟩, ⟨#[66]⟩, ⟨#[116, 111, 111, 108, 111, 110, 103, 56]⟩]) from Blk.new w3 9 _)
    have HX4 := Lib.hid (HX3.out.alloc (Obj.cells #[Value.string ⟨#[97]⟩, .string ⟨#[]⟩, .string ⟨#[66]⟩, .string ⟨#[116, 111, 111, 108, 111, 110, 103, 56]⟩] 9))
    have HB4 := Lib.hid (HB3.out.alloc (Obj.cells #[Value.string ⟨#[97]⟩, .string ⟨#[]⟩, .string ⟨#[66]⟩, .string ⟨#[116, 111, 111, 108, 111, 110, 103, 56]⟩] 9))
    have HRW4 := Lib.hid (HRW3.out.alloc (Obj.cells #[Value.string ⟨#[97]⟩, .string ⟨#[]⟩, .string ⟨#[66]⟩, .string ⟨#[116, 111, 111, 108, 111, 110, 103, 56]⟩] 9))
    have HK4 := Lib.hid (HK3.out.kept hal (fun q hq => by cases hq))
    have HR4 := Lib.hid (HR3.out.kept hal (fun k hk => by cases hk))
    have HG4 := Lib.hid (grown_alloc HG3.out (Obj.cells #[Value.string ⟨#[97]⟩, .string ⟨#[]⟩, .string ⟨#[66]⟩, .string ⟨#[116, 111, 111, 108, 111, 110, 103, 56]⟩] 9))
    have hlt4 : xb < w3.heap.size ∧ rb < w3.heap.size := ⟨HX3.out.lt, HR3.out.lt⟩
    clear hal
    have x3 : w3.cell? ⟨xb, 3, none⟩ = some (.slice an ns.length cn) := HX3.out.cell rfl
    have x3a : (w3.alloc (Obj.cells #[Value.string ⟨#[97]⟩, .string ⟨#[]⟩, .string ⟨#[66]⟩, .string ⟨#[116, 111, 111, 108, 111, 110, 103, 56]⟩] 9)).cell? ⟨xb, 3, none⟩ = some (.slice an ns.length cn) := HX4.out.cell rfl
    have HCA := Lib.hid (of_any (w3.alloc (Obj.cells #[Value.string ⟨#[97]⟩, .string ⟨#[]⟩, .string ⟨#[66]⟩, .string ⟨#[116, 111, 111, 108, 111, 110, 103, 56]⟩] 9)).drew rb ao n cap (p + 1) (show Rd (w3.alloc (Obj.cells #[Value.string ⟨#[97]⟩, .string ⟨#[]⟩, .string ⟨#[66]⟩, .string ⟨#[116, 111, 111, 108, 111, 110, 103, 56]⟩] 9)) rb ao n cap (p + 1) from HR4.out) (by omega) w3.heap.size 4 4 (by omega) (by omega) (fun j => List.getD [⟨#[97]⟩, ⟨#[]⟩, ⟨#[66]⟩, ⟨#[116, 111, 111, 108, 111, 110, 103, 56]⟩] j ByteArray.empty) (by omega) (fun j hj => HC.out.drew.text j (by simpa using hj)))
    have HY := Lib.hid (show ∀ j, j < 4 → ∃ y : ByteArray, List.getD [⟨#[97]⟩, ⟨#[]⟩, ⟨#[66]⟩, ⟨#[116, 111, 111, 108, 111, 110, 103, 56]⟩] j ByteArray.empty = y ∧ y.size ≤ 8 from fun j hj => by
      have hjs : j = 0 ∨ j = 1 ∨ j = 2 ∨ j = 3 := by omega
      rcases hjs with rfl | rfl | rfl | rfl
      · exact ⟨⟨#[97]⟩, rfl, by decide⟩
      · exact ⟨⟨#[]⟩, rfl, by decide⟩
      · exact ⟨⟨#[66]⟩, rfl, by decide⟩
      · exact ⟨⟨#[116, 111, 111, 108, 111, 110, 103, 56]⟩, rfl, by decide⟩)
    obtain ⟨i9, hi9, hz0, hz1, hz2⟩ := info_parts info9z
    have HI9 := Lib.hid (And.intro hi9 (And.intro hz0 (And.intro hz1 hz2)))
    clear hi9 hz0 hz1 hz2 HX3 HB3 HRW3 HK3 HR3 HG3 HLX HC
    go_wp2
    go_region_law (first | (refine step_append_row2 (by rfl) (.tmp 50) (.tmp 54) 24 (by rfl) 9 i9 (.string ⟨#[]⟩) 16 Tryz.underlying24 HI9.out.1 HI9.out.2.1 HI9.out.2.2.1 HI9.out.2.2.2 rfl (w.heap.size + 2) _ (txs ns) (by rfl) HRA.out ⟨w5.heap.size, 0, none⟩ 1 1 [.string yy] (by rfl) rfl (news_new _ _ _) (txs_one [yy]) (by rw [txs_len]; unfold maxLen; omega) (by rw [txs_len]; omega) HSZ.out ?_; intro v' w6 HR6 HG6 HO6; have HR6' := Lib.hid (show Row w6 (w.heap.size + 2) v' (txs (ns ++ [yy])) from by rw [txs_app]; exact HR6.out); obtain ⟨an', cn', hv', hcn', -⟩ := row_txs HR6'.out; have hv2 : v' = .slice an' (ns ++ [yy]).length cn' := hv'; rw [List.length_append, List.length_singleton] at hv2; subst hv2; clear hv' HR6; have HX6 := Lib.hid (HX5a.out.kept HG6.out (fun e => by have := (HOW.out _ e.symm).2; omega)); have HB6 := Lib.hid (HB5a.out.kept HG6.out (fun e => by have := (HOW.out _ e.symm).1; omega)); have f3 := HX6.out.frozen 3; have x3c : w6.cell? ⟨xb, 3, none⟩ = some (.slice an ns.length cn) := HX6.out.cell rfl) | (go_simp; go_at_call 26; (with_reducible refine HCA.out.mono ?_); rintro e w5 ⟨j, hj, rfl, hr5, hg5⟩; obtain ⟨yy, hyy, hyl⟩ := HY.out j hj; rw [hyy]; have HGR := Lib.hid (show (w3.alloc (Obj.cells #[Value.string ⟨#[97]⟩, .string ⟨#[]⟩, .string ⟨#[66]⟩, .string ⟨#[116, 111, 111, 108, 111, 110, 103, 56]⟩] 9)).grownBy w5 (some rb) from grown_undrew hg5); have HX5 := Lib.hid (HX4.out.kept HGR.out (by simp; omega)); have x3b : w5.cell? ⟨xb, 3, none⟩ = some (.slice an ns.length cn) := HX5.out.cell rfl; have HX5a := Lib.hid (HX5.out.alloc (Obj.cells #[.string yy] 9)); have x3d : (w5.alloc (Obj.cells #[.string yy] 9)).cell? ⟨xb, 3, none⟩ = some (.slice an ns.length cn) := HX5a.out.cell rfl; have HRW5 := Lib.hid (HRW4.out.kept HGR.out (fun q hq e => by have h1 := (HOW.out q hq).1; cases e; omega)); have HRA := Lib.hid (HRW5.out.alloc (Obj.cells #[.string yy] 9)); have HB5a := Lib.hid ((HB4.out.kept HGR.out (by simp; omega)).alloc (Obj.cells #[.string yy] 9)); have HK5 := Lib.hid (HK4.out.kept HGR.out (fun q hq hx => by cases hq; have := hx.1; omega)); have HR5 := Lib.hid hr5; have HG5 := Lib.hid (grown_trans HG4.out HGR.out); have HSZ := Lib.hid (show w.heap.size + 2 ≤ (w5.alloc (Obj.cells #[.string yy] 9)).heap.size from by have h1 := HX5.out.lt; have h2 := (World.grownBy_alloc w5 (Obj.cells #[.string yy] 9) none).size; omega); clear hr5 hg5 hyy))
    all_goals
      clear x3 x3a
      have hne1 : ¬ xb = w.heap.size + 1 := by omega
      have hne2 : ¬ w.heap.size + 1 = xb := by omega
      have x0 : w6.cell? ⟨xb, 0, none⟩ = some (.int .i64 s) := HX6.out.cell rfl
      have x1 : w6.cell? ⟨xb, 1, none⟩ = some (.int .i64 m) := HX6.out.cell rfl
      have x2 : w6.cell? ⟨xb, 2, none⟩ = some (.string t) := HX6.out.cell rfl
      have x3 : w6.cell? ⟨xb, 3, none⟩ = some (.slice an ns.length cn) := HX6.out.cell rfl
      have x4 : w6.cell? ⟨xb, 4, none⟩ = some (.slice ak ks.length ck) := HX6.out.cell rfl
      have r0 : w6.cell? ⟨w.heap.size + 1, 0, none⟩ = some (.int .i64 0) := HB6.out.cell rfl
      have g0 := HB6.out.frozen 0
      have r1 : w6.cell? ⟨w.heap.size + 1, 1, none⟩ = some (.int .i64 0) := HB6.out.cell rfl
      have g1 := HB6.out.frozen 1
      have r2 : w6.cell? ⟨w.heap.size + 1, 2, none⟩ = some (.string ⟨#[]⟩) := HB6.out.cell rfl
      have g2 := HB6.out.frozen 2
      have r3 : w6.cell? ⟨w.heap.size + 1, 3, none⟩ = some (.slice none 0 0) := HB6.out.cell rfl
      have g3 := HB6.out.frozen 3
      have r4 : w6.cell? ⟨w.heap.size + 1, 4, none⟩ = some (.slice none 0 0) := HB6.out.cell rfl
      have g4 := HB6.out.frozen 4
      have hgs := grown_set (grown_refl w6 (some xb)) 3 (.slice an' (ns.length + 1) cn')
      have hal := World.grownBy_alloc w5 (Obj.cells #[.string yy] 9) none
      have hsx : xb < w5.heap.size := HX5.out.lt
      have HLX7 := Lib.hid (show LX (w6.setCell ⟨xb, 3, none⟩ (.slice an' (ns.length + 1) cn')) (fun b => w.heap.size ≤ b ∧ b ≠ w.heap.size + 1) an' (ns ++ [yy]) from by
        have h1 := HR6'.out.kept hgs (fun q hq e => by
          have h2 := HO6.out q hq
          have h3 := hal.size
          cases e
          rcases h2 with h2 | h2
          · have := (HOW.out _ h2).2; omega
          · omega)
        have h4 : Row (w6.setCell ⟨xb, 3, none⟩ (.slice an' (ns.length + 1) cn')) (w.heap.size + 2) (.slice an' (ns ++ [yy]).length cn') (txs (ns ++ [yy])) := by rw [List.length_append, List.length_singleton]; exact h1
        exact (row_lx h4).mono (fun b _ hb => ⟨by have := hb.1; omega, by have := hb.1; omega⟩))
      have HEND := Lib.hid (draw_group (w := w) (w1 := w6.setCell ⟨xb, 3, none⟩ (.slice an' (ns.length + 1) cn')) (rb := rb) (r := w.heap.size + 1) (ao := ao) (n := n) (cap := cap) (p := p) (p1 := p + 2) (c := 200) (B := 5000) (X := fun b => w.heap.size + 2 ≤ b ∧ (Value.slice an ns.length cn).ownBlock ≠ some b ∧ b ≠ xb) s m t (ns ++ [yy]) ks an' ak cn' ck (by omega) (by omega) (((HR5.out.kept hal (fun k hk => by cases hk)).kept HG6.out (fun k hk => by have := (HOW.out k hk).1; omega)).kept hgs (fun k hk => by cases hk; omega)) (by omega) (by omega) (grown_into (grown_own (grown_alloc HG5.out _) HG6.out (fun q hq => by have := (HOW.out q hq).1; omega)) hgs (by omega)) (((HK5.out.kept hal (fun q hq => by cases hq)).kept HG6.out (fun q hq hx => hx.2.1 hq)).kept hgs (fun q hq hx => by cases hq; exact hx.2.2 rfl)) (fun b hb => ⟨by have := hb.1; omega, by have := hb.1; omega⟩) HLX7.out hcn' (by rw [bulk, bulkS_app, List.length_append, List.length_singleton]; omega) (by omega) hs.1 hs.2 hm.1 hm.2)
      rw [List.length_append, List.length_singleton] at HEND
      have HBE := Lib.hid (set5_blk (HB6.out.kept hgs (by simp; omega)) (.int .i64 s) (.int .i64 m) (.string t) (.slice an' (ns.length + 1) cn') (.slice ak ks.length ck))
      clear hgs hal HLX7 HX6 HB6 HR6' HG6 HO6 HX5 HX5a HB5a HK5 HR5 HG5 HRW5 HRA HGR
      go_wp2
      exact ⟨rfl, _, results_five Tryz.results72 _ _ (w.heap.size + 1) 27 _ _ HBE.out Tryz.underlying27 rfl info26s rfl, HEND.out⟩
  · have hal := World.grownBy_alloc w3 (Obj.cells #[Value.int .i64 1, .int .i64 0, .string ⟨#[]⟩, .slice none 0 0, .slice none 0 0] 27) none
    have HX4 := Lib.hid (HX3.out.alloc (Obj.cells #[Value.int .i64 1, .int .i64 0, .string ⟨#[]⟩, .slice none 0 0, .slice none 0 0] 27))
    have HB4 := Lib.hid (HB3.out.alloc (Obj.cells #[Value.int .i64 1, .int .i64 0, .string ⟨#[]⟩, .slice none 0 0, .slice none 0 0] 27))
    have HRW4 := Lib.hid (HRW3.out.alloc (Obj.cells #[Value.int .i64 1, .int .i64 0, .string ⟨#[]⟩, .slice none 0 0, .slice none 0 0] 27))
    have HK4 := Lib.hid (HK3.out.kept hal (fun q hq => by cases hq))
    have HR4 := Lib.hid (HR3.out.kept hal (fun k hk => by cases hk))
    have HG4 := Lib.hid (grown_alloc HG3.out (Obj.cells #[Value.int .i64 1, .int .i64 0, .string ⟨#[]⟩, .slice none 0 0, .slice none 0 0] 27))
    have hlt4 : xb < w3.heap.size ∧ rb < w3.heap.size := ⟨HX3.out.lt, HR3.out.lt⟩
    clear hal
    have x4 : w3.cell? ⟨xb, 4, none⟩ = some (.slice ak ks.length ck) := HX3.out.cell rfl
    obtain ⟨i26, hi26, hz0, hz1, hz2⟩ := info_parts info26
    have HII := Lib.hid (And.intro hi26 (And.intro hz0 (And.intro hz1 hz2)))
    obtain ⟨css, hcl, hrk, hxo, hkv⟩ := HK4.out
    have HRA := Lib.hid hrk
    have HKV := Lib.hid (And.intro hcl (And.intro hxo hkv))
    have HNE := Lib.hid (show some xb ≠ (Value.slice ak ks.length ck).ownBlock from fun e => (hxo xb e.symm).2.2 rfl)
    have HNR := Lib.hid (show some (w.heap.size + 1) ≠ (Value.slice ak ks.length ck).ownBlock from fun e => by have := (hxo _ e.symm).1; omega)
    clear hi26 hz0 hz1 hz2 HX3 HB3 HRW3 HK3 HR3 HG3 HLX hcl hrk hxo hkv
    have hne1 : ¬ xb = w.heap.size + 1 := by omega
    have hne2 : ¬ w.heap.size + 1 = xb := by omega
    go_wp2_with (first | (at_builtin; refine wpList_append_rowK rfl _ _ 25 rfl 27 i26 (.agg #[.int .i64 0, .int .i64 0, .string ⟨#[]⟩, .slice none 0 0, .slice none 0 0]) 80 Tryz.underlying25 HII.out.1 HII.out.2.1 HII.out.2.2.1 HII.out.2.2.2 rfl 0 _ ks.length css.flatten rfl HRA.out ⟨_, 0, none⟩ 1 1 [.int .i64 1, .int .i64 0, .string ⟨#[]⟩, .slice none 0 0, .slice none 0 0] rfl rfl (news_new _ 27 [.int .i64 1, .int .i64 0, .string ⟨#[]⟩, .slice none 0 0, .slice none 0 0]) (by intro v hv; simp at hv; rcases hv with rfl | rfl | rfl | rfl | rfl <;> rfl) (by unfold maxLen; omega) (by omega) (Nat.zero_le _) ?_; intro v' w5 HR5 HG5 HO5; obtain ⟨ta, cp, rfl, hcp⟩ := HR5.out.shape; have HX5 := Lib.hid (HX4.out.kept HG5.out HNE.out); have HB5 := Lib.hid (HB4.out.kept HG5.out HNR.out); have x0 : w5.cell? ⟨xb, 0, none⟩ = some (.int .i64 s) := HX5.out.cell rfl; have x1 : w5.cell? ⟨xb, 1, none⟩ = some (.int .i64 m) := HX5.out.cell rfl; have x2 : w5.cell? ⟨xb, 2, none⟩ = some (.string t) := HX5.out.cell rfl; have x3 : w5.cell? ⟨xb, 3, none⟩ = some (.slice an ns.length cn) := HX5.out.cell rfl; have x4 : w5.cell? ⟨xb, 4, none⟩ = some (.slice ak ks.length ck) := HX5.out.cell rfl; have f4 := HX5.out.frozen 4; have r0 : w5.cell? ⟨w.heap.size + 1, 0, none⟩ = some (.int .i64 0) := HB5.out.cell rfl; have g0 := HB5.out.frozen 0; have r1 : w5.cell? ⟨w.heap.size + 1, 1, none⟩ = some (.int .i64 0) := HB5.out.cell rfl; have g1 := HB5.out.frozen 1; have r2 : w5.cell? ⟨w.heap.size + 1, 2, none⟩ = some (.string ⟨#[]⟩) := HB5.out.cell rfl; have g2 := HB5.out.frozen 2; have r3 : w5.cell? ⟨w.heap.size + 1, 3, none⟩ = some (.slice none 0 0) := HB5.out.cell rfl; have g3 := HB5.out.frozen 3; have r4 : w5.cell? ⟨w.heap.size + 1, 4, none⟩ = some (.slice none 0 0) := HB5.out.cell rfl; have g4 := HB5.out.frozen 4))
    have hgs := grown_set (grown_refl w5 (some xb)) 4 (.slice ta (ks.length + 1) cp)
    have hsx : xb < w3.heap.size := hlt4.1
    have hal := World.grownBy_alloc w3 (Obj.cells #[Value.int .i64 1, .int .i64 0, .string ⟨#[]⟩, .slice none 0 0, .slice none 0 0] 27) none
    have hkids : KidsIn w5 (fun b => w.heap.size + 2 ≤ b ∧ (Value.slice an ns.length cn).ownBlock ≠ some b ∧ b ≠ xb) (.slice ta (ks.length + 1) cp) (ks ++ [.node 1 0 ⟨#[]⟩ [] []]) := KidsIn.more (X := fun b => w.heap.size + 2 ≤ b ∧ (Value.slice an ns.length cn).ownBlock ≠ some b ∧ b ≠ xb) (Z := fun _ => False) HKV.out.1 HKV.out.2.1 HKV.out.2.2 (VX.leaf _ _ 1 0 ⟨#[]⟩ (by decide) (by omega) (by omega) (by omega) (by omega)) (fun b _ hb => hb.elim) HR5.out HG5.out HO5.out (fun q hq => by have h1 := hal.size; exact ⟨by omega, fun e => by have := (HOW.out q e).2; omega, by omega⟩)
    have hk6 : KidsIn (w5.setCell ⟨xb, 4, none⟩ (.slice ta (ks.length + 1) cp)) (fun b => w.heap.size + 2 ≤ b ∧ (Value.slice an ns.length cn).ownBlock ≠ some b ∧ b ≠ xb) (.slice ta (ks ++ [VT.node 1 0 ⟨#[]⟩ [] []]).length cp) (ks ++ [.node 1 0 ⟨#[]⟩ [] []]) := by
      rw [List.length_append, List.length_singleton]
      exact hkids.kept hgs (fun q hq hx => by cases hq; exact hx.2.2 rfl)
    have HOK := Lib.hid HKV.out.2.1
    have HLX7 := Lib.hid (row_lx ((HRW4.out.kept HG5.out (fun q hq e => (HOK.out q e.symm).2.1 hq)).kept hgs (fun q hq e => by have := (HOW.out q hq).2; cases e; omega)))
    have HEND := Lib.hid (draw_group (w := w) (w1 := w5.setCell ⟨xb, 4, none⟩ (.slice ta (ks.length + 1) cp)) (rb := rb) (r := w.heap.size + 1) (ao := ao) (n := n) (cap := cap) (p := p) (p1 := p + 1) (c := 200) (B := 5000) (X := fun b => w.heap.size + 2 ≤ b ∧ (Value.slice an ns.length cn).ownBlock ≠ some b ∧ b ≠ xb) s m t ns (ks ++ [.node 1 0 ⟨#[]⟩ [] []]) an ta cn cp (by omega) (by omega) ((HR4.out.kept HG5.out (fun k hk => by have := (HOK.out k hk).1; omega)).kept hgs (fun k hk => by cases hk; omega)) (by omega) (by omega) (grown_into (grown_own HG4.out HG5.out (fun q hq => by have := (HOK.out q hq).1; omega)) hgs (by omega)) hk6 (fun b hb => ⟨by have := hb.1; omega, by have := hb.1; omega⟩) (HLX7.out.mono (fun b _ hb => ⟨by have := hb.1; omega, by have := hb.1; omega⟩)) hcn (by
      rw [bulk, bulkK_app, List.length_append, List.length_singleton]
      have : bulk (.node 1 0 ⟨#[]⟩ [] []) = 0 := by rw [bulk]; rfl
      omega) (by omega) hs.1 hs.2 hm.1 hm.2)
    rw [List.length_append, List.length_singleton] at HEND
    have HBE := Lib.hid (set5_blk (HB5.out.kept hgs (by simp; omega)) (.int .i64 s) (.int .i64 m) (.string t) (.slice an ns.length cn) (.slice ta (ks.length + 1) cp))
    exact ⟨rfl, _, results_five Tryz.results72 _ _ (w.heap.size + 1) 27 _ _ HBE.out Tryz.underlying27 rfl info26s rfl, HEND.out⟩
  · have HVX3 := Lib.hid (show VX w3 (fun b => w.heap.size + 2 ≤ b ∧ b ≠ xb) (.node s m t ns ks) [.int .i64 s, .int .i64 m, .string t, .slice an ns.length cn, .slice ak ks.length ck] from KidsIn.made HK3.out rfl (fun b hb => ⟨hb.1, hb.2.2⟩) (HLX.out.mono (fun b _ hb => ⟨hb.1, by have := (HOW.out b hb.2).2; omega⟩)) hcn (by omega) (by omega) (by omega) (fun s hs => by have := mem_bulkS hs; omega) hs.1 hs.2 hm.1 hm.2)
    clear HRW3 HK3 HLX
    have hne1 : ¬ xb = w.heap.size + 1 := by omega
    have hne2 : ¬ w.heap.size + 1 = xb := by omega
    go_wp2
    go_loopw [6] (fun i wr => ∃ (k : Nat) (s' m' : Int) (t' : ByteArray) (ns' : List ByteArray) (ks' : List VT) (an' ak' : Option Addr) (cn' ck' : Nat), i = .int .i64 (k : Int) ∧ k ≤ 3 ∧ Hid (Blk wr xb 27 [.int .i64 s', .int .i64 m', .string t', .slice an' ns'.length cn', .slice ak' ks'.length ck']) ∧ Hid (VX wr (fun b => w.heap.size + 2 ≤ b ∧ b ≠ xb) (.node s' m' t' ns' ks') [.int .i64 s', .int .i64 m', .string t', .slice an' ns'.length cn', .slice ak' ks'.length ck']) ∧ Hid (bulk (.node s' m' t' ns' ks') ≤ 3000 + k) ∧ Hid (Blk wr (w.heap.size + 1) 27 [.int .i64 0, .int .i64 0, .string ⟨#[]⟩, .slice none 0 0, .slice none 0 0]) ∧ Hid (Rd wr rb ao n cap (p + 1)) ∧ Hid (w.grownBy wr (some rb))) (fun i _ => 3 - (intOf i).toNat)
    case atStart => exact ⟨0, s, m, t, ns, ks, an, ak, cn, ck, rfl, by omega, HX3, HVX3, Lib.hid (by rw [bulk]; omega), HB3, HR3, HG3⟩
    case round =>
      obtain ⟨k, s', m', t', ns', ks', an', ak', cn', ck', rfl, hk3, HX, HV, HBU, HB, HR, HG⟩ := hrel
      have x0 : wr.cell? ⟨xb, 0, none⟩ = some (.int .i64 s') := HX.out.cell rfl
      have f0 := HX.out.frozen 0
      have x1 : wr.cell? ⟨xb, 1, none⟩ = some (.int .i64 m') := HX.out.cell rfl
      have f1 := HX.out.frozen 1
      have x2 : wr.cell? ⟨xb, 2, none⟩ = some (.string t') := HX.out.cell rfl
      have f2 := HX.out.frozen 2
      have x3 : wr.cell? ⟨xb, 3, none⟩ = some (.slice an' ns'.length cn') := HX.out.cell rfl
      have f3 := HX.out.frozen 3
      have x4 : wr.cell? ⟨xb, 4, none⟩ = some (.slice ak' ks'.length ck') := HX.out.cell rfl
      have f4 := HX.out.frozen 4
      by_cases hlt : k < 3
      case neg =>
        obtain rfl : k = 3 := by omega
        have r0 : wr.cell? ⟨w.heap.size + 1, 0, none⟩ = some (.int .i64 0) := HB.out.cell rfl
        have g0 := HB.out.frozen 0
        have r1 : wr.cell? ⟨w.heap.size + 1, 1, none⟩ = some (.int .i64 0) := HB.out.cell rfl
        have g1 := HB.out.frozen 1
        have r2 : wr.cell? ⟨w.heap.size + 1, 2, none⟩ = some (.string ⟨#[]⟩) := HB.out.cell rfl
        have g2 := HB.out.frozen 2
        have r3 : wr.cell? ⟨w.heap.size + 1, 3, none⟩ = some (.slice none 0 0) := HB.out.cell rfl
        have g3 := HB.out.frozen 3
        have r4 : wr.cell? ⟨w.heap.size + 1, 4, none⟩ = some (.slice none 0 0) := HB.out.cell rfl
        have g4 := HB.out.frozen 4
        have HEND := Lib.hid (draw_vx (w := w) (w1 := wr) (rb := rb) (r := w.heap.size + 1) (ao := ao) (n := n) (cap := cap) (p := p) (p1 := p + 1) (c := 200) (B := 5000) (.node s' m' t' ns' ks') (.int .i64 s') (.int .i64 m') (.string t') (.slice an' ns'.length cn') (.slice ak' ks'.length ck') (HV.out.mono (fun b _ hb => ⟨by have := hb.1; omega, by have := hb.1; omega⟩)) (by have := HBU.out; omega) (by omega) (by omega) HR.out (by omega) (by omega) HG.out)
        have HBE := Lib.hid (set5_blk HB.out (.int .i64 s') (.int .i64 m') (.string t') (.slice an' ns'.length cn') (.slice ak' ks'.length ck'))
        clear HX HV HBU HB HR HG
        go_wp2
        exact ⟨rfl, _, results_five Tryz.results72 _ _ (w.heap.size + 1) 27 _ _ HBE.out Tryz.underlying27 rfl info26s rfl, HEND.out⟩
      have hkI : (k : Int) < 3 := by omega
      have hxw := HX.out.lt
      have hna : ¬ wr.heap.size = xb := by omega
      have hnb : ¬ xb = wr.heap.size := by omega
      go_wp2
      go_roundw
      case rel =>
        have hg5 := set5_grown wr xb (.int .i64 5) (.int .i64 0) (.string ⟨#[]⟩) (.slice none 0 0) (.slice (some ⟨wr.heap.size, 0, none⟩) 1 1)
        have hsz : (set5 wr xb (.int .i64 5) (.int .i64 0) (.string ⟨#[]⟩) (.slice none 0 0) (.slice (some ⟨wr.heap.size, 0, none⟩) 1 1)).heap.size = wr.heap.size := by simp [set5]
        have hxs := set5_blk HX.out (.int .i64 5) (.int .i64 0) (.string ⟨#[]⟩) (.slice none 0 0) (.slice (some ⟨wr.heap.size, 0, none⟩) 1 1)
        have hbs := HB.out.kept hg5 (by simp; omega)
        have hrs := HR.out.kept hg5 (fun k hk => by cases hk; omega)
        have hgs := grown_into HG.out hg5 (by omega)
        have hvs := HV.out.kept (Kept.of_grown hg5 (fun q hq hx => by cases hq; exact hx.2 rfl))
        show ∃ (k_1 : Nat) (s'_1 m'_1 : Int) (t'_1 : ByteArray) (ns'_1 : List ByteArray) (ks'_1 : List VT) (an'_1 ak'_1 : Option Addr) (cn'_1 ck'_1 : Nat), _ ∧ _ ∧ Hid (Blk ((set5 wr xb (.int .i64 5) (.int .i64 0) (.string ⟨#[]⟩) (.slice none 0 0) (.slice (some ⟨wr.heap.size, 0, none⟩) 1 1)).alloc (Obj.cells #[Value.int .i64 s', .int .i64 m', .string t', .slice an' ns'.length cn', .slice ak' ks'.length ck'] 27)) _ _ _) ∧ Hid (VX ((set5 wr xb (.int .i64 5) (.int .i64 0) (.string ⟨#[]⟩) (.slice none 0 0) (.slice (some ⟨wr.heap.size, 0, none⟩) 1 1)).alloc (Obj.cells #[Value.int .i64 s', .int .i64 m', .string t', .slice an' ns'.length cn', .slice ak' ks'.length ck'] 27)) _ _ _) ∧ _ ∧ Hid (Blk ((set5 wr xb (.int .i64 5) (.int .i64 0) (.string ⟨#[]⟩) (.slice none 0 0) (.slice (some ⟨wr.heap.size, 0, none⟩) 1 1)).alloc (Obj.cells #[Value.int .i64 s', .int .i64 m', .string t', .slice an' ns'.length cn', .slice ak' ks'.length ck'] 27)) _ _ _) ∧ Hid (Rd ((set5 wr xb (.int .i64 5) (.int .i64 0) (.string ⟨#[]⟩) (.slice none 0 0) (.slice (some ⟨wr.heap.size, 0, none⟩) 1 1)).alloc (Obj.cells #[Value.int .i64 s', .int .i64 m', .string t', .slice an' ns'.length cn', .slice ak' ks'.length ck'] 27)) _ _ _ _ _) ∧ Hid (w.grownBy ((set5 wr xb (.int .i64 5) (.int .i64 0) (.string ⟨#[]⟩) (.slice none 0 0) (.slice (some ⟨wr.heap.size, 0, none⟩) 1 1)).alloc (Obj.cells #[Value.int .i64 s', .int .i64 m', .string t', .slice an' ns'.length cn', .slice ak' ks'.length ck'] 27)) _)
        generalize set5 wr xb (.int .i64 5) (.int .i64 0) (.string ⟨#[]⟩) (.slice none 0 0) (.slice (some ⟨wr.heap.size, 0, none⟩) 1 1) = wy at hg5 hsz hxs hbs hrs hgs hvs ⊢
        have hal := World.grownBy_alloc wy (Obj.cells #[Value.int .i64 s', .int .i64 m', .string t', .slice an' ns'.length cn', .slice ak' ks'.length ck'] 27) none
        have hnew : Blk (wy.alloc (Obj.cells #[Value.int .i64 s', .int .i64 m', .string t', .slice an' ns'.length cn', .slice ak' ks'.length ck'] 27)) wr.heap.size 27 [.int .i64 s', .int .i64 m', .string t', .slice an' ns'.length cn', .slice ak' ks'.length ck'] := by rw [← hsz]; exact Blk.new wy 27 [.int .i64 s', .int .i64 m', .string t', .slice an' ns'.length cn', .slice ak' ks'.length ck']
        refine ⟨k + 1, 5, 0, ⟨#[]⟩, [], [.node s' m' t' ns' ks'], none, some ⟨wr.heap.size, 0, none⟩, 0, 1, by go_num, by omega, Lib.hid (hxs.alloc _), Lib.hid ?_, Lib.hid ?_, Lib.hid (hbs.alloc _), Lib.hid (hrs.kept hal (fun k hk => by cases hk)), Lib.hid (grown_alloc hgs _)⟩
        · exact VX.nest hnew ⟨by omega, by omega⟩ (hvs.kept (Kept.of_grown hal (fun q hq => by cases hq)))
        · have h1 := HBU.out
          rw [bulk_nest]
          omega
      case measure => simp [intOf]; omega
  · obtain ⟨i26, hi26, hz0, hz1, hz2⟩ := info_parts info26
    have HII := Lib.hid (And.intro hi26 (And.intro hz0 (And.intro hz1 hz2)))
    clear hi26 hz0 hz1 hz2
    have hyb0 : (y == 0) = false := by simp; omega
    have hyb1 : (y == 1) = false := by simp; omega
    have hyb2 : (y == 2) = false := by simp; omega
    have hyb3 : (y == 3) = false := by simp; omega
    have hyb4 : (y == 4) = false := by simp; omega
    have hyb5 : (y == 5) = false := by simp; omega
    have hgs := set5_grown w3 xb (.int .i64 5) (.int .i64 0) (.string ⟨#[]⟩) (.slice none 0 0) (.slice none 0 0)
    have HX4 := Lib.hid (show Blk (((((w3.setCell ⟨xb, 0, none⟩ (.int .i64 5)).setCell ⟨xb, 1, none⟩ (.int .i64 0)).setCell ⟨xb, 2, none⟩ (.string ⟨#[]⟩)).setCell ⟨xb, 3, none⟩ (.slice none 0 0)).setCell ⟨xb, 4, none⟩ (.slice none 0 0)) xb 27 [.int .i64 5, .int .i64 0, .string ⟨#[]⟩, .slice none 0 0, .slice none 0 0] from set5_blk HX3.out _ _ _ _ _)
    have HB4 := Lib.hid (show Blk (((((w3.setCell ⟨xb, 0, none⟩ (.int .i64 5)).setCell ⟨xb, 1, none⟩ (.int .i64 0)).setCell ⟨xb, 2, none⟩ (.string ⟨#[]⟩)).setCell ⟨xb, 3, none⟩ (.slice none 0 0)).setCell ⟨xb, 4, none⟩ (.slice none 0 0)) (w.heap.size + 1) 27 [.int .i64 0, .int .i64 0, .string ⟨#[]⟩, .slice none 0 0, .slice none 0 0] from HB3.out.kept hgs (by simp; omega))
    have HR4 := Lib.hid (show Rd (((((w3.setCell ⟨xb, 0, none⟩ (.int .i64 5)).setCell ⟨xb, 1, none⟩ (.int .i64 0)).setCell ⟨xb, 2, none⟩ (.string ⟨#[]⟩)).setCell ⟨xb, 3, none⟩ (.slice none 0 0)).setCell ⟨xb, 4, none⟩ (.slice none 0 0)) rb ao n cap (p + 1) from HR3.out.kept hgs (fun k hk => by cases hk; omega))
    have HG4 := Lib.hid (show w.grownBy (((((w3.setCell ⟨xb, 0, none⟩ (.int .i64 5)).setCell ⟨xb, 1, none⟩ (.int .i64 0)).setCell ⟨xb, 2, none⟩ (.string ⟨#[]⟩)).setCell ⟨xb, 3, none⟩ (.slice none 0 0)).setCell ⟨xb, 4, none⟩ (.slice none 0 0)) (some rb) from grown_into HG3.out hgs (by omega))
    have hne1 : ¬ xb = w.heap.size + 1 := by omega
    have hne2 : ¬ w.heap.size + 1 = xb := by omega
    have x0 : w3.cell? ⟨xb, 0, none⟩ = some (.int .i64 s) := HX3.out.cell rfl
    have f0 := HX3.out.frozen 0
    have x1 : w3.cell? ⟨xb, 1, none⟩ = some (.int .i64 m) := HX3.out.cell rfl
    have f1 := HX3.out.frozen 1
    have x2 : w3.cell? ⟨xb, 2, none⟩ = some (.string t) := HX3.out.cell rfl
    have f2 := HX3.out.frozen 2
    have x3 : w3.cell? ⟨xb, 3, none⟩ = some (.slice an ns.length cn) := HX3.out.cell rfl
    have f3 := HX3.out.frozen 3
    have x4 : w3.cell? ⟨xb, 4, none⟩ = some (.slice ak ks.length ck) := HX3.out.cell rfl
    have f4 := HX3.out.frozen 4
    clear hgs HB3 HR3 HG3 HRW3 HK3 HLX HX3
    go_wp2
    clear x0 x1 x2 x3 x4 f0 f1 f2 f3 f4
    generalize (((((w3.setCell ⟨xb, 0, none⟩ (.int .i64 5)).setCell ⟨xb, 1, none⟩ (.int .i64 0)).setCell ⟨xb, 2, none⟩ (.string ⟨#[]⟩)).setCell ⟨xb, 3, none⟩ (.slice none 0 0)).setCell ⟨xb, 4, none⟩ (.slice none 0 0)) = w4 at HX4 HB4 HR4 HG4 ⊢
    go_loopw [16] (fun _ wr => ∃ (q : Nat) (ks2 : List VT) (sk : Value), ks2.length ≤ 6 ∧ p ≤ q ∧ q ≤ p + 1 + 26 * ks2.length ∧ Hid (bulkK ks2 ≤ ks2.length * 590) ∧ Hid (Blk wr xb 27 [.int .i64 5, .int .i64 0, .string ⟨#[]⟩, .slice none 0 0, sk]) ∧ Hid (KidsIn wr (fun b => xb + 1 ≤ b) sk ks2) ∧ Hid (Blk wr (w.heap.size + 1) 27 [.int .i64 0, .int .i64 0, .string ⟨#[]⟩, .slice none 0 0, .slice none 0 0]) ∧ Hid (Rd wr rb ao n cap q) ∧ Hid (w.grownBy wr (some rb))) (fun _ wr => 7 - lenAt wr xb)
    case atStart => exact ⟨p + 1, [], .slice none 0 0, by simp, by omega, by simp, Lib.hid (by simp [bulkK]), HX4, Lib.hid (KidsIn.nil _ _), HB4, HR4, HG4⟩
    case round =>
      obtain ⟨q, ks2, sk, hks, hpq, hq, HBU, HX, HK, HB, HR, HG⟩ := hrel
      obtain ⟨ta, cp, rfl, hcp⟩ := HK.out.shape
      have x4 : wr.cell? ⟨xb, 4, none⟩ = some (.slice ta ks2.length cp) := HX.out.cell rfl
      have HLA := Lib.hid (lenAt_of x4)
      have HCP := Lib.hid (pick_any wr.drew rb ao n cap q (HR.out.kept (grown_drew (grown_refl wr none)) (fun k hk => by cases hk)) (by omega) 2 (by omega) (by omega))
      go_wp2
      go_region_law (go_simp; go_at_call 25; (with_reducible refine HCP.out.mono ?_); rintro e w5 ⟨z, rfl, hz0, hz1, hr5, hg5⟩; have HGR := Lib.hid (grown_undrew hg5); have HX5 := Lib.hid (HX.out.kept HGR.out (by simp; omega)); have x4a : w5.cell? ⟨xb, 4, none⟩ = some (.slice ta ks2.length cp) := HX5.out.cell rfl; have HB5 := Lib.hid (HB.out.kept HGR.out (by simp; omega)); have HK5 := Lib.hid (HK.out.kept HGR.out (fun q hq hx => by cases hq; omega)); have HR5 := Lib.hid hr5; have HG5 := Lib.hid (grown_trans HG.out HGR.out); have e5 : IntKind.i64.wrap (5 + z) = 5 + z := (by rw [IntKind.wrap_i64]; omega); clear hr5 hg5)
      all_goals
        go_simp
        clear HX HK HB HR HG HGR x4 e5
        by_cases hlt : (ks2.length : Int) < 5 + z
        case neg =>
          have x0 : w5.cell? ⟨xb, 0, none⟩ = some (.int .i64 5) := HX5.out.cell rfl
          have x1 : w5.cell? ⟨xb, 1, none⟩ = some (.int .i64 0) := HX5.out.cell rfl
          have x2 : w5.cell? ⟨xb, 2, none⟩ = some (.string ⟨#[]⟩) := HX5.out.cell rfl
          have x3 : w5.cell? ⟨xb, 3, none⟩ = some (.slice none 0 0) := HX5.out.cell rfl
          have x4 : w5.cell? ⟨xb, 4, none⟩ = some (.slice ta ks2.length cp) := HX5.out.cell rfl
          have r0 : w5.cell? ⟨w.heap.size + 1, 0, none⟩ = some (.int .i64 0) := HB5.out.cell rfl
          have g0 := HB5.out.frozen 0
          have r1 : w5.cell? ⟨w.heap.size + 1, 1, none⟩ = some (.int .i64 0) := HB5.out.cell rfl
          have g1 := HB5.out.frozen 1
          have r2 : w5.cell? ⟨w.heap.size + 1, 2, none⟩ = some (.string ⟨#[]⟩) := HB5.out.cell rfl
          have g2 := HB5.out.frozen 2
          have r3 : w5.cell? ⟨w.heap.size + 1, 3, none⟩ = some (.slice none 0 0) := HB5.out.cell rfl
          have g3 := HB5.out.frozen 3
          have r4 : w5.cell? ⟨w.heap.size + 1, 4, none⟩ = some (.slice none 0 0) := HB5.out.cell rfl
          have g4 := HB5.out.frozen 4
          have HEND := Lib.hid (draw_group (w := w) (w1 := w5) (rb := rb) (r := w.heap.size + 1) (ao := ao) (n := n) (cap := cap) (p := p) (p1 := q + 1) (c := 200) (B := 5000) (X := fun b => xb + 1 ≤ b) 5 0 ⟨#[]⟩ [] ks2 none ta 0 cp (by omega) (by omega) HR5.out (by omega) (by omega) HG5.out HK5.out (fun b hb => ⟨by omega, by omega⟩) (.inl rfl) (Nat.zero_le _) (by
            have h1 := HBU.out
            rw [bulk]
            show 0 + (0 + 0) + (ks2.length + bulkK ks2) ≤ 5000
            omega) (by omega) (by omega) (by omega) (by omega) (by omega))
          have HBE := Lib.hid (set5_blk HB5.out (.int .i64 5) (.int .i64 0) (.string ⟨#[]⟩) (.slice none 0 0) (.slice ta ks2.length cp))
          have hlb : decide ((ks2.length : Int) < 5 + z) = false := by simpa using hlt
          clear HX5 HB5 HR5 HG5 HK5 x4a hlt
          go_step
          rw [hlb]
          clear hlb
          go_wp2
          exact ⟨rfl, _, results_five Tryz.results72 _ _ (w.heap.size + 1) 27 _ _ HBE.out Tryz.underlying27 rfl info26s rfl, HEND.out⟩
        have HXL := Lib.hid HX5.out.lt
        have HCA := Lib.hid (val2_any rb ao n cap w5.drew (q + 1) (HR5.out.kept (grown_drew (grown_refl w5 none)) (fun k hk => by cases hk)) (by omega))
        go_wp2
        go_region_law (first | (refine step_append_rowK (by rfl) (.tmp 20) (.tmp 23) 25 (by rfl) 27 i26 (.agg #[.int .i64 0, .int .i64 0, .string ⟨#[]⟩, .slice none 0 0, .slice none 0 0]) 80 Tryz.underlying25 HII.out.1 HII.out.2.1 HII.out.2.2.1 HII.out.2.2.2 rfl 0 _ ks2.length css.flatten (by rfl) HRA.out ⟨w7.heap.size, 0, none⟩ 1 1 [c0, c1, c2, c3, c4] (by rfl) rfl (news_new _ _ _) HONE.out (by unfold maxLen; omega) (by omega) (Nat.zero_le _) ?_; intro v' w8 HR8 HG8 HO8; obtain ⟨ta', cp', rfl, hcp'⟩ := HR8.out.shape; have HX8 := Lib.hid (HX7.out.kept HG8.out HNE.out); have x4c : w8.cell? ⟨xb, 4, none⟩ = some (.slice ta ks2.length cp) := HX8.out.cell rfl; have f4 := HX8.out.frozen 4) | (go_simp; go_at_call 28; (with_reducible refine HCA.out.mono ?_); rintro e w7 ⟨T, cs, q', rfl, hvx, hbT, hrd7, hq1, hq2, hg7⟩; obtain ⟨c0, c1, c2, c3, c4, rfl, hone⟩ := hvx.five; have HGR := Lib.hid (show w5.grownBy w7 (some rb) from grown_undrew hg7); have HX7a := Lib.hid (HX5.out.kept HGR.out (by simp; omega)); have x4b : w7.cell? ⟨xb, 4, none⟩ = some (.slice ta ks2.length cp) := HX7a.out.cell rfl; have HONE := Lib.hid hone; obtain ⟨css, hcl, hrk, hxo, hkv⟩ := (HK5.out.kept HGR.out (fun q hq hx => by cases hq; omega)); have HRA := Lib.hid (hrk.kept (World.grownBy_alloc w7 (Obj.cells #[c0, c1, c2, c3, c4] 27) none) (by simp)); have HX7 := Lib.hid (HX7a.out.alloc (Obj.cells #[c0, c1, c2, c3, c4] 27)); have x4d : (w7.alloc (Obj.cells #[c0, c1, c2, c3, c4] 27)).cell? ⟨xb, 4, none⟩ = some (.slice ta ks2.length cp) := HX7.out.cell rfl; have HNE := Lib.hid (show some xb ≠ (Value.slice ta ks2.length cp).ownBlock from fun e => by have := hxo xb e.symm; omega); have HKV := Lib.hid (And.intro hcl (And.intro hxo hkv)); have HVX := Lib.hid hvx; have HR7 := Lib.hid hrd7; have HB7 := Lib.hid (HB5.out.kept HGR.out (by simp; omega)); have HG7 := Lib.hid (grown_trans HG5.out HGR.out); have HBT := Lib.hid hbT; clear hone hg7 hrk hxo hkv hcl hvx hrd7 hbT))
        all_goals
          go_wp2
          go_roundw
          case rel =>
            have hal := World.grownBy_alloc w7 (Obj.cells #[c0, c1, c2, c3, c4] 27) none
            have hkids : KidsIn w8 (fun b => xb + 1 ≤ b) (.slice ta' (ks2.length + 1) cp') (ks2 ++ [T]) := KidsIn.more (X := fun b => xb + 1 ≤ b) (Z := fun b => w5.heap.size ≤ b) HKV.out.1 HKV.out.2.1 (fun j k hj => (HKV.out.2.2 j k hj).kept (Kept.of_grown hal (fun q hq => by cases hq))) (HVX.out.kept (Kept.of_grown hal (fun q hq => by cases hq))) (fun b _ hb => ⟨by have := HXL.out; omega, fun e => by have := (HK5.out.lt b e).2; omega⟩) HR8.out HG8.out HO8.out (fun q hq => by have h1 := HXL.out; have h2 := HGR.out.size; have h3 := hal.size; omega)
            have hown : ∀ q, (Value.slice ta ks2.length cp).ownBlock = some q → xb + 1 ≤ q := HKV.out.2.1
            have hgs := grown_set (grown_refl w8 (some xb)) 4 (.slice ta' (ks2.length + 1) cp')
            refine ⟨q', ks2 ++ [T], .slice ta' (ks2.length + 1) cp', by simp; omega, by omega, by simp; omega, Lib.hid ?_, Lib.hid (HX8.out.set 4 _), Lib.hid (hkids.kept hgs (fun q hq hx => by cases hq; omega)), Lib.hid (((HB7.out.alloc _).kept HG8.out (fun e => by have := hown _ e.symm; omega)).kept hgs (by simp; omega)), Lib.hid (((HR7.out.kept hal (fun k hk => by cases hk)).kept HG8.out (fun k hk => by have := hown k hk; omega)).kept hgs (fun k hk => by cases hk; omega)), Lib.hid (grown_into (grown_own (grown_alloc HG7.out _) HG8.out (fun q hq => by have := hown q hq; omega)) hgs (by omega))⟩
            have h1 := HBU.out
            have h2 := HBT.out
            rw [bulkK_app, List.length_append, List.length_singleton, Nat.add_mul]
            omega
          case measure =>
            rw [HLA.out, lenAt_of ((HX8.out.set 4 (.slice ta' (ks2.length + 1) cp')).cell rfl)]
            omega
end Go.Proofs.YtgmigloafcejdaaGreatDoor
