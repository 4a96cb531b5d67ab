/- A copy of a value, as the document's model makes it. -/
import Derived.Test.YtgmigloafcejdaaGreatDoorZ4
import Derived.Test.YtgmigloafcejdaaGreatDoorZ7
import Derived.Test.YtgmigloafcejdaaGreatDoorV4
namespace Go.Proofs.YtgmigloafcejdaaGreatDoor
open Go.RowKit

/-- a copy: the value itself, in new memory, its two rows of its own -/
def CopyR (W w' : World) (T : VT) (e : Ending) : Prop :=
  ∃ (s n : Int) (t : ByteArray) (ns : List ByteArray) (ks : List VT) (an ak : Option Addr) (cn ck : Nat), T = .node s n t ns ks ∧ e = .returned (.agg #[.int .i64 s, .int .i64 n, .string t, .slice an ns.length cn, .slice ak ks.length ck]) ∧ Row w' W.heap.size (.slice an ns.length cn) (txs ns) ∧
    KidsIn w' (fun b => W.heap.size ≤ b ∧ (Value.slice an ns.length cn).ownBlock ≠ some b) (.slice ak ks.length ck) ks ∧ VX w' (fun b => W.heap.size ≤ b) T [.int .i64 s, .int .i64 n, .string t, .slice an ns.length cn, .slice ak ks.length ck] ∧ W.grownBy w' none

set_option maxRecDepth 100000 in
set_option maxHeartbeats 8000000 in
theorem copy_any (w : World) (base : Nat) (T : VT) (cs : List Value) (h : VIn w base T cs) : bulk T ≤ 1048576 → ∀ W : World, w.grownBy W none → Calls Tryz.prog 74 #[.agg cs.toArray] W fun e w' => CopyR W w' T e := by
  induction h with
  | @mk s n t ns ks an ak cn ck CS hn hp hk hcn hck ht hcl hkl hsl hs1 hs2 hn1 hn2 ih =>
    intro hbu W hW
    rw [bulk] at hbu
    have HW := Lib.hid hW
    have HSL := Lib.hid hsl
    have HN := Lib.hid hn
    have HP := Lib.hid hp
    have HIH := Lib.hid (fun (j : Nat) (k : VT) (hj : ks[j]? = some k) (Y : World) (hY : w.grownBy Y none) => ih j k hj (by have := bulk_kid hj; omega) Y hY)
    clear hn hp hk ih hsl hW
    obtain ⟨i9, hi9, hz0, hz1, hz2⟩ := info_parts info9z
    have HI9 := Lib.hid (And.intro hi9 (And.intro hz0 (And.intro hz1 hz2)))
    clear hi9 hz0 hz1 hz2
    obtain ⟨i26, hi26, hz0, hz1, hz2⟩ := info_parts info26
    have HII := Lib.hid (And.intro hi26 (And.intro hz0 (And.intro hz1 hz2)))
    clear hi26 hz0 hz1 hz2
    have HA := Lib.hid (show Blk ((W.alloc (Obj.cells #[Value.int .i64 s, .int .i64 n, .string t, .slice an ns.length cn, .slice ak ks.length ck] 27)).alloc (Obj.cells #[Value.int .i64 0, .int .i64 0, .string ⟨#[]⟩, .slice none 0 0, .slice none 0 0] 27)) W.heap.size 27 [.int .i64 s, .int .i64 n, .string t, .slice an ns.length cn, .slice ak ks.length ck] from (Blk.new W 27 [.int .i64 s, .int .i64 n, .string t, .slice an ns.length cn, .slice ak ks.length ck]).alloc _)
    have HB := Lib.hid (show Blk ((W.alloc (Obj.cells #[Value.int .i64 s, .int .i64 n, .string t, .slice an ns.length cn, .slice ak ks.length ck] 27)).alloc (Obj.cells #[Value.int .i64 0, .int .i64 0, .string ⟨#[]⟩, .slice none 0 0, .slice none 0 0] 27)) (W.heap.size + 1) 27 [.int .i64 0, .int .i64 0, .string ⟨#[]⟩, .slice none 0 0, .slice none 0 0] from by
      have := Blk.new (W.alloc (Obj.cells #[Value.int .i64 s, .int .i64 n, .string t, .slice an ns.length cn, .slice ak ks.length ck] 27)) 27 [.int .i64 0, .int .i64 0, .string ⟨#[]⟩, .slice none 0 0, .slice none 0 0]
      simpa using this)
    have HG := Lib.hid (show W.grownBy ((W.alloc (Obj.cells #[Value.int .i64 s, .int .i64 n, .string t, .slice an ns.length cn, .slice ak ks.length ck] 27)).alloc (Obj.cells #[Value.int .i64 0, .int .i64 0, .string ⟨#[]⟩, .slice none 0 0, .slice none 0 0] 27)) none from grown_alloc (grown_alloc (grown_refl _ _) _) _)
    have HZ := Lib.hid (show ((W.alloc (Obj.cells #[Value.int .i64 s, .int .i64 n, .string t, .slice an ns.length cn, .slice ak ks.length ck] 27)).alloc (Obj.cells #[Value.int .i64 0, .int .i64 0, .string ⟨#[]⟩, .slice none 0 0, .slice none 0 0] 27)).heap.size = W.heap.size + 2 from by simp)
    go_enter Tryz.func74, Tryz.ntmps74
    go_wp2
    generalize (W.alloc (Obj.cells #[Value.int .i64 s, .int .i64 n, .string t, .slice an ns.length cn, .slice ak ks.length ck] 27)).alloc (Obj.cells #[Value.int .i64 0, .int .i64 0, .string ⟨#[]⟩, .slice none 0 0, .slice none 0 0] 27) = W2 at HA HB HG HZ ⊢
    have d0 : W2.cell? ⟨W.heap.size, 0, none⟩ = some (.int .i64 s) := HA.out.cell rfl
    have d1 : W2.cell? ⟨W.heap.size, 1, none⟩ = some (.int .i64 n) := HA.out.cell rfl
    have d2 : W2.cell? ⟨W.heap.size, 2, none⟩ = some (.string t) := HA.out.cell rfl
    have d3 : W2.cell? ⟨W.heap.size, 3, none⟩ = some (.slice an ns.length cn) := HA.out.cell rfl
    have RA := Lib.hid (show Row (W2.alloc (Obj.cells #[] 9)) W2.heap.size (.slice (some ⟨W2.heap.size, 0, none⟩) 0 0) [] from Row.lit W2 9 [])
    have RB := Lib.hid (RA.out.alloc (Obj.cells #[Value.int .i64 0, .int .i64 0, .string ⟨#[]⟩, .slice none 0 0, .slice none 0 0] 27))
    have RC := Lib.hid (show Row ((W2.alloc (Obj.cells #[Value.int .i64 0, .int .i64 0, .string ⟨#[]⟩, .slice none 0 0, .slice none 0 0] 27)).alloc (Obj.cells #[] 9)) W2.heap.size (.slice (some ⟨W2.heap.size + 1, 0, none⟩) 0 0) [] from by
      have := (Row.lit (W2.alloc (Obj.cells #[Value.int .i64 0, .int .i64 0, .string ⟨#[]⟩, .slice none 0 0, .slice none 0 0] 27)) 9 []).base (b' := W2.heap.size) (by simp)
      simpa using this)
    have HS := Lib.hid (fun (Y : World) (hY : W2.grownBy Y none) => show ns.length = 0 ∨ ∃ ad, an = some ad ∧ ∀ j u, (txs ns)[j]? = some u → Y.cell? (ad.add j) = some u from by
      rcases HN.out with h0 | ⟨ab, o, rfl, -, hc⟩
      · exact .inl h0
      · refine .inr ⟨⟨ab, o, none⟩, rfl, fun j u hj => ?_⟩
        have hjl : j < ns.length := by
          have := (List.getElem?_eq_some_iff.1 hj).1
          rwa [txs_len] at this
        rw [Addr.add_mid]
        have h1 := hY.cell (HG.out.cell (HW.out.cell (hc j hjl) (by simp)) (by simp)) (by simp)
        rw [h1]
        simp [txs, hjl] at hj
        rw [← hj]
        simp [hjl])
    have HSA := Lib.hid (HS.out (W2.alloc (Obj.cells #[] 9)) (grown_alloc (grown_refl _ _) _))
    have HSB := Lib.hid (HS.out ((W2.alloc (Obj.cells #[] 9)).alloc (Obj.cells #[Value.int .i64 0, .int .i64 0, .string ⟨#[]⟩, .slice none 0 0, .slice none 0 0] 27)) (grown_alloc (grown_alloc (grown_refl _ _) _) _))
    have HSC := Lib.hid (HS.out ((W2.alloc (Obj.cells #[Value.int .i64 0, .int .i64 0, .string ⟨#[]⟩, .slice none 0 0, .slice none 0 0] 27)).alloc (Obj.cells #[] 9)) (grown_alloc (grown_alloc (grown_refl _ _) _) _))
    have HVA := Lib.hid (HA.out.alloc (Obj.cells #[] 9))
    have HVB := Lib.hid (HVA.out.alloc (Obj.cells #[Value.int .i64 0, .int .i64 0, .string ⟨#[]⟩, .slice none 0 0, .slice none 0 0] 27))
    have HVC := Lib.hid ((HA.out.alloc (Obj.cells #[Value.int .i64 0, .int .i64 0, .string ⟨#[]⟩, .slice none 0 0, .slice none 0 0] 27)).alloc (Obj.cells #[] 9))
    have HXB := Lib.hid (show Blk ((W2.alloc (Obj.cells #[] 9)).alloc (Obj.cells #[Value.int .i64 0, .int .i64 0, .string ⟨#[]⟩, .slice none 0 0, .slice none 0 0] 27)) (W2.heap.size + 1) 27 [.int .i64 0, .int .i64 0, .string ⟨#[]⟩, .slice none 0 0, .slice none 0 0] from by
      have := Blk.new (W2.alloc (Obj.cells #[] 9)) 27 [.int .i64 0, .int .i64 0, .string ⟨#[]⟩, .slice none 0 0, .slice none 0 0]
      simpa using this)
    have HXC := Lib.hid (show Blk ((W2.alloc (Obj.cells #[Value.int .i64 0, .int .i64 0, .string ⟨#[]⟩, .slice none 0 0, .slice none 0 0] 27)).alloc (Obj.cells #[] 9)) W2.heap.size 27 [.int .i64 0, .int .i64 0, .string ⟨#[]⟩, .slice none 0 0, .slice none 0 0] from (Blk.new W2 27 [.int .i64 0, .int .i64 0, .string ⟨#[]⟩, .slice none 0 0, .slice none 0 0]).alloc _)
    have hnx1 : W.heap.size ≠ W2.heap.size := by have := HZ.out; omega
    have hnx2 : W.heap.size ≠ W2.heap.size + 1 := by have := HZ.out; omega
    go_region_held3 (fun w' => w'.cell? ⟨W.heap.size, 0, none⟩ = some (.int .i64 s) ∧ w'.cell? ⟨W.heap.size, 1, none⟩ = some (.int .i64 n) ∧ w'.cell? ⟨W.heap.size, 2, none⟩ = some (.string t) ∧ w'.cell? ⟨W.heap.size, 3, none⟩ = some (.slice an ns.length cn)) (first | go_keep | exact hkp _ _ _ _ _) (first | (refine step_append_row3 (by rfl) (.tmp 11) (.tmp 13) 24 (by rfl) 9 i9 (.string ⟨#[]⟩) 16 Tryz.underlying24 HI9.out.1 HI9.out.2.1 HI9.out.2.2.1 HI9.out.2.2.2 rfl W2.heap.size W2.heap.size 0 0 [] (by rfl) RA.out an ns.length cn (txs ns) (by rfl) (txs_len ns) (HSA.out) (txs_one ns) (by simp only [List.length_nil]; unfold maxLen; omega) (by simp only [List.length_nil]; omega) (by go_size) ?_; intro v' w5 HR5 HG5 HO5; obtain ⟨an', cn', hv', hcn', -⟩ := row_txs (show Row w5 W2.heap.size v' (txs ns) from HR5.out); subst hv'; have hgx : (W2.alloc (Obj.cells #[] 9)).grownBy w5 (some W2.heap.size) := ⟨HG5.out.os, HG5.out.tape, HG5.out.output, HG5.out.size, HG5.out.block⟩; have HGX := Lib.hid hgx; have c0 := (HVA.out.kept hgx (by simp; omega)).cell (j := 0) rfl; have c1 := (HVA.out.kept hgx (by simp; omega)).cell (j := 1) rfl; have c2 := (HVA.out.kept hgx (by simp; omega)).cell (j := 2) rfl; have c3 := (HVA.out.kept hgx (by simp; omega)).cell (j := 3) rfl) | (refine step_append_row3 (by rfl) (.tmp 11) (.tmp 13) 24 (by rfl) 9 i9 (.string ⟨#[]⟩) 16 Tryz.underlying24 HI9.out.1 HI9.out.2.1 HI9.out.2.2.1 HI9.out.2.2.2 rfl W2.heap.size W2.heap.size 0 0 [] (by rfl) RB.out an ns.length cn (txs ns) (by rfl) (txs_len ns) (HSB.out) (txs_one ns) (by simp only [List.length_nil]; unfold maxLen; omega) (by simp only [List.length_nil]; omega) (by go_size) ?_; intro v' w5 HR5 HG5 HO5; obtain ⟨an', cn', hv', hcn', -⟩ := row_txs (show Row w5 W2.heap.size v' (txs ns) from HR5.out); subst hv'; have hgx : ((W2.alloc (Obj.cells #[] 9)).alloc (Obj.cells #[Value.int .i64 0, .int .i64 0, .string ⟨#[]⟩, .slice none 0 0, .slice none 0 0] 27)).grownBy w5 (some W2.heap.size) := ⟨HG5.out.os, HG5.out.tape, HG5.out.output, HG5.out.size, HG5.out.block⟩; have HGX := Lib.hid hgx; have c0 := (HVB.out.kept hgx (by simp; omega)).cell (j := 0) rfl; have c1 := (HVB.out.kept hgx (by simp; omega)).cell (j := 1) rfl; have c2 := (HVB.out.kept hgx (by simp; omega)).cell (j := 2) rfl; have c3 := (HVB.out.kept hgx (by simp; omega)).cell (j := 3) rfl; have hkp : ∀ u0 u1 u2 u3 u4 : Value, (set5 w5 (W2.heap.size + 1) u0 u1 u2 u3 u4).cell? ⟨W.heap.size, 0, none⟩ = some (.int .i64 s) ∧ (set5 w5 (W2.heap.size + 1) u0 u1 u2 u3 u4).cell? ⟨W.heap.size, 1, none⟩ = some (.int .i64 n) ∧ (set5 w5 (W2.heap.size + 1) u0 u1 u2 u3 u4).cell? ⟨W.heap.size, 2, none⟩ = some (.string t) ∧ (set5 w5 (W2.heap.size + 1) u0 u1 u2 u3 u4).cell? ⟨W.heap.size, 3, none⟩ = some (.slice an ns.length cn) := fun u0 u1 u2 u3 u4 => ⟨(set5_grown w5 (W2.heap.size + 1) u0 u1 u2 u3 u4).cell c0 (by simp; omega), (set5_grown w5 (W2.heap.size + 1) u0 u1 u2 u3 u4).cell c1 (by simp; omega), (set5_grown w5 (W2.heap.size + 1) u0 u1 u2 u3 u4).cell c2 (by simp; omega), (set5_grown w5 (W2.heap.size + 1) u0 u1 u2 u3 u4).cell c3 (by simp; omega)⟩; have HX5 := Lib.hid (HXB.out.kept hgx (by simp)); have y0 := HX5.out.cell (j := 0) rfl; have z0 := HX5.out.frozen 0; have y1 := HX5.out.cell (j := 1) rfl; have z1 := HX5.out.frozen 1; have y2 := HX5.out.cell (j := 2) rfl; have z2 := HX5.out.frozen 2; have y3 := HX5.out.cell (j := 3) rfl; have z3 := HX5.out.frozen 3; have y4 := HX5.out.cell (j := 4) rfl; have z4 := HX5.out.frozen 4) | (refine step_append_row3 (by rfl) (.tmp 11) (.tmp 13) 24 (by rfl) 9 i9 (.string ⟨#[]⟩) 16 Tryz.underlying24 HI9.out.1 HI9.out.2.1 HI9.out.2.2.1 HI9.out.2.2.2 rfl W2.heap.size (W2.heap.size + 1) 0 0 [] (by rfl) RC.out an ns.length cn (txs ns) (by rfl) (txs_len ns) (HSC.out) (txs_one ns) (by simp only [List.length_nil]; unfold maxLen; omega) (by simp only [List.length_nil]; omega) (by go_size) ?_; intro v' w5 HR5 HG5 HO5; obtain ⟨an', cn', hv', hcn', -⟩ := row_txs (show Row w5 W2.heap.size v' (txs ns) from HR5.out); subst hv'; have hgx : ((W2.alloc (Obj.cells #[Value.int .i64 0, .int .i64 0, .string ⟨#[]⟩, .slice none 0 0, .slice none 0 0] 27)).alloc (Obj.cells #[] 9)).grownBy w5 (some (W2.heap.size + 1)) := ⟨HG5.out.os, HG5.out.tape, HG5.out.output, HG5.out.size, HG5.out.block⟩; have HGX := Lib.hid hgx; have c0 := (HVC.out.kept hgx (by simp; omega)).cell (j := 0) rfl; have c1 := (HVC.out.kept hgx (by simp; omega)).cell (j := 1) rfl; have c2 := (HVC.out.kept hgx (by simp; omega)).cell (j := 2) rfl; have c3 := (HVC.out.kept hgx (by simp; omega)).cell (j := 3) rfl; have hkp : ∀ u0 u1 u2 u3 u4 : Value, (set5 w5 W2.heap.size u0 u1 u2 u3 u4).cell? ⟨W.heap.size, 0, none⟩ = some (.int .i64 s) ∧ (set5 w5 W2.heap.size u0 u1 u2 u3 u4).cell? ⟨W.heap.size, 1, none⟩ = some (.int .i64 n) ∧ (set5 w5 W2.heap.size u0 u1 u2 u3 u4).cell? ⟨W.heap.size, 2, none⟩ = some (.string t) ∧ (set5 w5 W2.heap.size u0 u1 u2 u3 u4).cell? ⟨W.heap.size, 3, none⟩ = some (.slice an ns.length cn) := fun u0 u1 u2 u3 u4 => ⟨(set5_grown w5 W2.heap.size u0 u1 u2 u3 u4).cell c0 (by simp; omega), (set5_grown w5 W2.heap.size u0 u1 u2 u3 u4).cell c1 (by simp; omega), (set5_grown w5 W2.heap.size u0 u1 u2 u3 u4).cell c2 (by simp; omega), (set5_grown w5 W2.heap.size u0 u1 u2 u3 u4).cell c3 (by simp; omega)⟩; have HX5 := Lib.hid (HXC.out.kept hgx (by simp)); have y0 := HX5.out.cell (j := 0) rfl; have z0 := HX5.out.frozen 0; have y1 := HX5.out.cell (j := 1) rfl; have z1 := HX5.out.frozen 1; have y2 := HX5.out.cell (j := 2) rfl; have z2 := HX5.out.frozen 2; have y3 := HX5.out.cell (j := 3) rfl; have z3 := HX5.out.frozen 3; have y4 := HX5.out.cell (j := 4) rfl; have z4 := HX5.out.frozen 4))
    · have HX6 := Lib.hid (show Blk (w5.alloc (Obj.cells #[Value.int .i64 s, .int .i64 n, .string t, .slice an' ns.length cn', .slice none 0 0] 27)) w5.heap.size 27 [.int .i64 s, .int .i64 n, .string t, .slice an' ns.length cn', .slice none 0 0] from Blk.new w5 27 _)
      have HR6 := Lib.hid (show Row (w5.alloc (Obj.cells #[Value.int .i64 s, .int .i64 n, .string t, .slice an' ns.length cn', .slice none 0 0] 27)) (W.heap.size + 2) (.slice an' ns.length cn') (txs ns) from (show Row w5 W2.heap.size _ (txs ns) from HR5.out).alloc _ |>.base (by have := HZ.out; omega))
      have HA6 := Lib.hid (show Blk (w5.alloc (Obj.cells #[Value.int .i64 s, .int .i64 n, .string t, .slice an' ns.length cn', .slice none 0 0] 27)) W.heap.size 27 [.int .i64 s, .int .i64 n, .string t, .slice an ns.length cn, .slice ak ks.length ck] from (HVA.out.kept HGX.out (by simp; omega)).alloc _)
      have HB6 := Lib.hid (show Blk (w5.alloc (Obj.cells #[Value.int .i64 s, .int .i64 n, .string t, .slice an' ns.length cn', .slice none 0 0] 27)) (W.heap.size + 1) 27 [.int .i64 0, .int .i64 0, .string ⟨#[]⟩, .slice none 0 0, .slice none 0 0] from ((HB.out.alloc (Obj.cells #[] 9)).kept HGX.out (by have := HZ.out; simp; omega)).alloc _)
      have HG6 := Lib.hid (show W.grownBy (w5.alloc (Obj.cells #[Value.int .i64 s, .int .i64 n, .string t, .slice an' ns.length cn', .slice none 0 0] 27)) none from grown_alloc (grown_into (grown_alloc HG.out (Obj.cells #[] 9)) HGX.out (by have := HZ.out; omega)) _)
      have HOX := Lib.hid (show ∀ q, (Value.slice an' ns.length cn').ownBlock = some q → W.heap.size + 2 ≤ q ∧ q ≠ w5.heap.size ∧ q < (w5.alloc (Obj.cells #[Value.int .i64 s, .int .i64 n, .string t, .slice an' ns.length cn', .slice none 0 0] 27)).heap.size from fun q hq => by have h1 := HR5.out.lt q hq; have h2 := HZ.out; refine ⟨by omega, by omega, ?_⟩; have h3 := (World.grownBy_alloc w5 (Obj.cells #[Value.int .i64 s, .int .i64 n, .string t, .slice an' ns.length cn', .slice none 0 0] 27) none).size; omega)
      have HXL := Lib.hid (show W.heap.size + 2 ≤ w5.heap.size ∧ w5.heap.size < (w5.alloc (Obj.cells #[Value.int .i64 s, .int .i64 n, .string t, .slice an' ns.length cn', .slice none 0 0] 27)).heap.size from ⟨by have h2 := HZ.out; have h3 := HGX.out.size; have h4 := (World.grownBy_alloc W2 (Obj.cells #[] 9) none).size; omega, by simp⟩)
      clear HA HB HG HZ RA RB RC HS HSA HSB HSC HVA HVB HVC HXB HXC HG5 HR5 HO5 HGX d0 d1 d2 d3 c0 c1 c2 c3 hgx hnx1 hnx2
      generalize (w5.alloc (Obj.cells #[Value.int .i64 s, .int .i64 n, .string t, .slice an' ns.length cn', .slice none 0 0] 27)) = w6 at HX6 HR6 HA6 HB6 HG6 HOX HXL ⊢
      generalize w5.heap.size = xb at HX6 HOX HXL ⊢
      go_wp2
      go_loopw [4] (fun i wr => ∃ (k : Nat) (sk : Value), i = .int .i64 (k : Int) ∧ k ≤ ks.length ∧ Hid (Blk wr xb 27 [.int .i64 s, .int .i64 n, .string t, .slice an' ns.length cn', sk]) ∧ Hid (KidsIn wr (fun b => w6.heap.size ≤ b) sk (ks.take k)) ∧ Hid (Row wr (W.heap.size + 2) (.slice an' ns.length cn') (txs ns)) ∧ Hid (Blk wr W.heap.size 27 [.int .i64 s, .int .i64 n, .string t, .slice an ns.length cn, .slice ak ks.length ck]) ∧ Hid (Blk wr (W.heap.size + 1) 27 [.int .i64 0, .int .i64 0, .string ⟨#[]⟩, .slice none 0 0, .slice none 0 0]) ∧ Hid (w6.grownBy wr (some xb))) (fun i _ => ks.length - (intOf i).toNat)
      case atStart => exact ⟨0, .slice none 0 0, rfl, Nat.zero_le _, HX6, Lib.hid (KidsIn.nil _ _), HR6, HA6, HB6, Lib.hid (grown_refl _ _)⟩
      case round =>
        obtain ⟨k, sk, rfl, hk, HX, HK, HR, HA, HB, HG⟩ := hrel
        have HLEN := Lib.hid (show (ks.take k).length = k from by rw [List.length_take]; omega)
        obtain ⟨ta, cp, hsk, hcp⟩ := HK.out.shape
        rw [HLEN.out] at hsk hcp
        subst hsk
        have HGW := Lib.hid (show W.grownBy wr none from grown_into HG6.out HG.out (by have := HXL.out; omega))
        have a4 : wr.cell? ⟨W.heap.size, 4, none⟩ = some (.slice ak ks.length ck) := HA.out.cell rfl
        by_cases hlt : k < ks.length
        case neg =>
          obtain rfl : k = ks.length := by omega
          have hke : KidsIn wr (fun b => w6.heap.size ≤ b) (.slice ta ks.length cp) ks := by
            have := HK.out
            rwa [List.take_length] at this
          have hx0 : wr.cell? ⟨xb, 0, none⟩ = some (.int .i64 s) := HX.out.cell rfl
          have hx1 : wr.cell? ⟨xb, 1, none⟩ = some (.int .i64 n) := HX.out.cell rfl
          have hx2 : wr.cell? ⟨xb, 2, none⟩ = some (.string t) := HX.out.cell rfl
          have hx3 : wr.cell? ⟨xb, 3, none⟩ = some (.slice an' ns.length cn') := HX.out.cell rfl
          have hx4 : wr.cell? ⟨xb, 4, none⟩ = some (.slice ta ks.length cp) := HX.out.cell rfl
          have r0 : wr.cell? ⟨W.heap.size + 1, 0, none⟩ = some (.int .i64 0) := HB.out.cell rfl
          have r1 : wr.cell? ⟨W.heap.size + 1, 1, none⟩ = some (.int .i64 0) := HB.out.cell rfl
          have r2 : wr.cell? ⟨W.heap.size + 1, 2, none⟩ = some (.string ⟨#[]⟩) := HB.out.cell rfl
          have r3 : wr.cell? ⟨W.heap.size + 1, 3, none⟩ = some (.slice none 0 0) := HB.out.cell rfl
          have r4 : wr.cell? ⟨W.heap.size + 1, 4, none⟩ = some (.slice none 0 0) := HB.out.cell rfl
          have g0 := HB.out.frozen 0
          have g1 := HB.out.frozen 1
          have g2 := HB.out.frozen 2
          have g3 := HB.out.frozen 3
          have g4 := HB.out.frozen 4
          have hg5 := set5_grown wr (W.heap.size + 1) (.int .i64 s) (.int .i64 n) (.string t) (.slice an' ns.length cn') (.slice ta ks.length cp)
          have hxl := HXL.out
          have hw6 := HG6.out.size
          have hro := HR.out.kept hg5 (fun q hq e => by have h1 := (HOX.out q hq).1; cases e; omega)
          have hki := hke.kept hg5 (fun q hq hx => by cases hq; omega)
          have HEND := Lib.hid (show CopyR W (set5 wr (W.heap.size + 1) (.int .i64 s) (.int .i64 n) (.string t) (.slice an' ns.length cn') (.slice ta ks.length cp)) (.node s n t ns ks) (.returned (.agg #[.int .i64 s, .int .i64 n, .string t, .slice an' ns.length cn', .slice ta ks.length cp])) from by
            obtain ⟨an3, cn3, he, hcn3, hlx⟩ := row_txs hro
            cases he
            exact ⟨s, n, t, ns, ks, an', ta, cn', cp, rfl, rfl, hro.base (by omega), hki.mono (fun b _ hb => ⟨by omega, fun e => by have h1 := (HOX.out b e).2.2; omega⟩), KidsIn.made hki rfl (fun b hb => by omega) (hlx.mono (fun b _ hb => by have := hb.1; omega)) hcn3 ht hcl hkl HSL.out hs1 hs2 hn1 hn2, grown_into HGW.out hg5 (by omega)⟩)
          have HBE := Lib.hid (set5_blk HB.out (.int .i64 s) (.int .i64 n) (.string t) (.slice an' ns.length cn') (.slice ta ks.length cp))
          clear hg5 hro hki hke HX HK HR HA HB HG HGW
          go_wp2
          exact ⟨rfl, _, results_five Tryz.results74 _ _ (W.heap.size + 1) 27 _ _ HBE.out Tryz.underlying27 rfl info26s rfl, HEND.out⟩
        have hkI : (k : Int) < ks.length := by omega
        rcases HP.out with h0 | ⟨b, o, rfl, -, hc⟩
        · omega
        have HGWR := Lib.hid (grown_trans HW.out HGW.out)
        obtain ⟨p0, p1, p2, p3, p4, hcs, e0, e1, e2, e3, e4⟩ := (hc k hlt).kept HGWR.out (by simp)
        have HCA := Lib.hid (HIH.out k ks[k] (by simp [hlt]) wr.drew (grown_drew HGWR.out))
        rw [hcs] at HCA
        clear hc hcs
        have x4 : wr.cell? ⟨xb, 4, none⟩ = some (.slice ta k cp) := HX.out.cell rfl
        have hak : ks.length ≤ ck := hck
        go_wp2
        go_region_law (first | (refine step_append_rowK (by rfl) (.tmp 24) (.tmp 31) 25 (by rfl) 27 i26 (.agg #[.int .i64 0, .int .i64 0, .string ⟨#[]⟩, .slice none 0 0, .slice none 0 0]) 80 Tryz.underlying25 HII.out.1 HII.out.2.1 HII.out.2.2.1 HII.out.2.2.2 rfl 0 _ (ks.take k).length css.flatten (by rfl) HRA.out ⟨w7.heap.size, 0, none⟩ 1 1 [c0, c1, c2, c3, c4] (by rfl) rfl (news_new _ _ _) HONE.out (by rw [HLEN.out]; unfold maxLen; omega) (by rw [HLEN.out]; omega) (Nat.zero_le _) ?_; intro v' w8 HR8 HG8 HO8; obtain ⟨ta', cp', hv', hcp'⟩ := HR8.out.shape; rw [HLEN.out] at hv'; subst hv'; have HX8 := Lib.hid (HX7.out.kept HG8.out HNE.out); have x4b : w8.cell? ⟨xb, 4, none⟩ = some (.slice ta k cp) := HX8.out.cell rfl; have f4 := HX8.out.frozen 4) | (go_simp; go_at_call 74; refine HCA.out.mono ?_; rintro e w7 ⟨s', n', t', ns', ks', an2, ak2, cn2, ck2, hT, rfl, hrow2, hkid2, hvx, hg7⟩; obtain ⟨c0, hc0⟩ : ∃ c, c = Value.int .i64 s' := ⟨_, rfl⟩; obtain ⟨c1, hc1⟩ : ∃ c, c = Value.int .i64 n' := ⟨_, rfl⟩; obtain ⟨c2, hc2⟩ : ∃ c, c = Value.string t' := ⟨_, rfl⟩; obtain ⟨c3, hc3⟩ : ∃ c, c = Value.slice an2 ns'.length cn2 := ⟨_, rfl⟩; obtain ⟨c4, hc4⟩ : ∃ c, c = Value.slice ak2 ks'.length ck2 := ⟨_, rfl⟩; rw [← hc0, ← hc1, ← hc2, ← hc3, ← hc4] at hvx; rw [← hc0, ← hc1, ← hc2, ← hc3, ← hc4]; have HONE := Lib.hid (show ∀ v ∈ [c0, c1, c2, c3, c4], v.oneCell' = true from by intro v hv; obtain ⟨_, _, _, _, _, he, h⟩ := hvx.five; exact h v hv); clear hc0 hc1 hc2 hc3 hc4 hrow2 hkid2 hT; have HGR := Lib.hid (show wr.grownBy w7 none from grown_trans (grown_drew (grown_refl wr _)) hg7); have HX7a := Lib.hid (HX.out.kept HGR.out (by simp)); have x4a : w7.cell? ⟨xb, 4, none⟩ = some (.slice ta k cp) := HX7a.out.cell rfl; obtain ⟨css, hcl, hrk, hxo, hkv⟩ := (HK.out.kept HGR.out (fun q hq => by cases hq)); have HRA := Lib.hid (hrk.kept (World.grownBy_alloc w7 (Obj.cells #[c0, c1, c2, c3, c4] 27) none) (by simp)); have HX7 := Lib.hid (HX7a.out.alloc (Obj.cells #[c0, c1, c2, c3, c4] 27)); have x4c : (w7.alloc (Obj.cells #[c0, c1, c2, c3, c4] 27)).cell? ⟨xb, 4, none⟩ = some (.slice ta k cp) := HX7.out.cell rfl; have HNE := Lib.hid (show some xb ≠ (Value.slice ta k cp).ownBlock from fun e => by have h1 := hxo xb e.symm; have h2 := HXL.out; omega); have HKV := Lib.hid (And.intro hcl (And.intro hxo hkv)); have HVX := Lib.hid hvx; have HR7 := Lib.hid (HR.out.kept HGR.out (by simp)); have HA7 := Lib.hid (HA.out.kept HGR.out (by simp)); have HB7 := Lib.hid (HB.out.kept HGR.out (by simp)); have HG7 := Lib.hid (grown_trans HG.out (grown_widen HGR.out)); clear hg7 hrk hxo hkv hcl hvx))
        all_goals
          clear e0 e1 e2 e3 e4 x4 a4
          go_wp2
          go_roundw
          case rel =>
            have hal := World.grownBy_alloc w7 (Obj.cells #[c0, c1, c2, c3, c4] 27) none
            have hown : ∀ q, (Value.slice ta k cp).ownBlock = some q → w6.heap.size ≤ q := HKV.out.2.1
            have hw6 := HG.out.size
            have hkids : KidsIn w8 (fun b => w6.heap.size ≤ b) (.slice ta' (k + 1) cp') (ks.take k ++ [ks[k]]) := KidsIn.more (X := fun b => w6.heap.size ≤ b) (Z := fun b => wr.heap.size ≤ b) HKV.out.1 HKV.out.2.1 (fun j k hj => (HKV.out.2.2 j k hj).kept (Kept.of_grown hal (fun q hq => by cases hq))) (HVX.out.kept (Kept.of_grown hal (fun q hq => by cases hq))) (fun b _ hb => ⟨by omega, fun e => by have := (HK.out.lt b e).2; omega⟩) HR8.out HG8.out HO8.out (fun q hq => by have h2 := HGR.out.size; have h3 := hal.size; omega)
            rw [show ks.take k ++ [ks[k]] = ks.take (k + 1) from by rw [List.take_add_one]; simp [hlt]] at hkids
            have hgs := grown_set (grown_refl w8 (some xb)) 4 (.slice ta' (k + 1) cp')
            have hxl := HXL.out
            refine ⟨k + 1, .slice ta' (k + 1) cp', by go_num, by omega, Lib.hid (HX8.out.set 4 _), Lib.hid (hkids.kept hgs (fun q hq hx => by cases hq; omega)), Lib.hid (((HR7.out.alloc _).kept HG8.out (fun q hq e => by have h1 := hown q e.symm; have h2 := (HOX.out q hq).2.2; omega)).kept hgs (fun q hq e => by have h1 := (HOX.out q hq).2.1; cases e; exact h1 rfl)), Lib.hid (((HA7.out.alloc _).kept HG8.out (fun e => by have := hown _ e.symm; omega)).kept hgs (by simp; omega)), Lib.hid (((HB7.out.alloc _).kept HG8.out (fun e => by have := hown _ e.symm; omega)).kept hgs (by simp; omega)), Lib.hid (grown_trans (grown_own (grown_alloc HG7.out _) HG8.out hown) hgs)⟩
          case measure => simp [intOf]; omega
    · have HX6 := Lib.hid (show Blk (((((w5.setCell ⟨(W2.heap.size + 1), 0, none⟩ (.int .i64 s)).setCell ⟨(W2.heap.size + 1), 1, none⟩ (.int .i64 n)).setCell ⟨(W2.heap.size + 1), 2, none⟩ (.string t)).setCell ⟨(W2.heap.size + 1), 3, none⟩ (.slice an' ns.length cn')).setCell ⟨(W2.heap.size + 1), 4, none⟩ (.slice none 0 0)) (W2.heap.size + 1) 27 [.int .i64 s, .int .i64 n, .string t, .slice an' ns.length cn', .slice none 0 0] from set5_blk HX5.out _ _ _ _ _)
      have HR6 := Lib.hid (show Row (((((w5.setCell ⟨(W2.heap.size + 1), 0, none⟩ (.int .i64 s)).setCell ⟨(W2.heap.size + 1), 1, none⟩ (.int .i64 n)).setCell ⟨(W2.heap.size + 1), 2, none⟩ (.string t)).setCell ⟨(W2.heap.size + 1), 3, none⟩ (.slice an' ns.length cn')).setCell ⟨(W2.heap.size + 1), 4, none⟩ (.slice none 0 0)) (W.heap.size + 2) (.slice an' ns.length cn') (txs ns) from ((show Row w5 W2.heap.size _ (txs ns) from HR5.out).kept (set5_grown w5 (W2.heap.size + 1) (.int .i64 s) (.int .i64 n) (.string t) (.slice an' ns.length cn') (.slice none 0 0)) (fun q hq e => by have h1 := HR5.out.lt q hq; have h3 := HO5.out q hq; have h4 : ((W2.alloc (Obj.cells #[] 9)).alloc (Obj.cells #[Value.int .i64 0, .int .i64 0, .string ⟨#[]⟩, .slice none 0 0, .slice none 0 0] 27)).drew.heap.size = W2.heap.size + 2 := (by simp); cases e; omega)).base (by have := HZ.out; omega))
      have HA6 := Lib.hid (show Blk (((((w5.setCell ⟨(W2.heap.size + 1), 0, none⟩ (.int .i64 s)).setCell ⟨(W2.heap.size + 1), 1, none⟩ (.int .i64 n)).setCell ⟨(W2.heap.size + 1), 2, none⟩ (.string t)).setCell ⟨(W2.heap.size + 1), 3, none⟩ (.slice an' ns.length cn')).setCell ⟨(W2.heap.size + 1), 4, none⟩ (.slice none 0 0)) W.heap.size 27 [.int .i64 s, .int .i64 n, .string t, .slice an ns.length cn, .slice ak ks.length ck] from ((HVB.out.kept HGX.out (by simp; omega)).kept (set5_grown w5 (W2.heap.size + 1) (.int .i64 s) (.int .i64 n) (.string t) (.slice an' ns.length cn') (.slice none 0 0)) (by simp; omega)))
      have HB6 := Lib.hid (show Blk (((((w5.setCell ⟨(W2.heap.size + 1), 0, none⟩ (.int .i64 s)).setCell ⟨(W2.heap.size + 1), 1, none⟩ (.int .i64 n)).setCell ⟨(W2.heap.size + 1), 2, none⟩ (.string t)).setCell ⟨(W2.heap.size + 1), 3, none⟩ (.slice an' ns.length cn')).setCell ⟨(W2.heap.size + 1), 4, none⟩ (.slice none 0 0)) (W.heap.size + 1) 27 [.int .i64 0, .int .i64 0, .string ⟨#[]⟩, .slice none 0 0, .slice none 0 0] from (((HB.out.alloc (Obj.cells #[] 9)).alloc (Obj.cells #[Value.int .i64 0, .int .i64 0, .string ⟨#[]⟩, .slice none 0 0, .slice none 0 0] 27)).kept HGX.out (by have := HZ.out; simp; omega)).kept (set5_grown w5 (W2.heap.size + 1) (.int .i64 s) (.int .i64 n) (.string t) (.slice an' ns.length cn') (.slice none 0 0)) (by have := HZ.out; simp; omega))
      have HG6 := Lib.hid (show W.grownBy (((((w5.setCell ⟨(W2.heap.size + 1), 0, none⟩ (.int .i64 s)).setCell ⟨(W2.heap.size + 1), 1, none⟩ (.int .i64 n)).setCell ⟨(W2.heap.size + 1), 2, none⟩ (.string t)).setCell ⟨(W2.heap.size + 1), 3, none⟩ (.slice an' ns.length cn')).setCell ⟨(W2.heap.size + 1), 4, none⟩ (.slice none 0 0)) none from grown_into (grown_into (grown_alloc (grown_alloc HG.out _) _) HGX.out (by have := HZ.out; omega)) (set5_grown w5 (W2.heap.size + 1) (.int .i64 s) (.int .i64 n) (.string t) (.slice an' ns.length cn') (.slice none 0 0)) (by have := HZ.out; omega))
      have HOX := Lib.hid (show ∀ q, (Value.slice an' ns.length cn').ownBlock = some q → W.heap.size + 2 ≤ q ∧ q ≠ (W2.heap.size + 1) ∧ q < (((((w5.setCell ⟨(W2.heap.size + 1), 0, none⟩ (.int .i64 s)).setCell ⟨(W2.heap.size + 1), 1, none⟩ (.int .i64 n)).setCell ⟨(W2.heap.size + 1), 2, none⟩ (.string t)).setCell ⟨(W2.heap.size + 1), 3, none⟩ (.slice an' ns.length cn')).setCell ⟨(W2.heap.size + 1), 4, none⟩ (.slice none 0 0)).heap.size from fun q hq => by have h1 := HR5.out.lt q hq; have h2 := HZ.out; have h3 := HO5.out q hq; have h4 : ((W2.alloc (Obj.cells #[] 9)).alloc (Obj.cells #[Value.int .i64 0, .int .i64 0, .string ⟨#[]⟩, .slice none 0 0, .slice none 0 0] 27)).drew.heap.size = W2.heap.size + 2 := (by simp); have h5 := (set5_grown w5 (W2.heap.size + 1) (.int .i64 s) (.int .i64 n) (.string t) (.slice an' ns.length cn') (.slice none 0 0)).size; have h6 : (set5 w5 (W2.heap.size + 1) (.int .i64 s) (.int .i64 n) (.string t) (.slice an' ns.length cn') (.slice none 0 0)).heap.size = (((((w5.setCell ⟨(W2.heap.size + 1), 0, none⟩ (.int .i64 s)).setCell ⟨(W2.heap.size + 1), 1, none⟩ (.int .i64 n)).setCell ⟨(W2.heap.size + 1), 2, none⟩ (.string t)).setCell ⟨(W2.heap.size + 1), 3, none⟩ (.slice an' ns.length cn')).setCell ⟨(W2.heap.size + 1), 4, none⟩ (.slice none 0 0)).heap.size := rfl; omega)
      have HXL := Lib.hid (show W.heap.size + 2 ≤ (W2.heap.size + 1) ∧ (W2.heap.size + 1) < (((((w5.setCell ⟨(W2.heap.size + 1), 0, none⟩ (.int .i64 s)).setCell ⟨(W2.heap.size + 1), 1, none⟩ (.int .i64 n)).setCell ⟨(W2.heap.size + 1), 2, none⟩ (.string t)).setCell ⟨(W2.heap.size + 1), 3, none⟩ (.slice an' ns.length cn')).setCell ⟨(W2.heap.size + 1), 4, none⟩ (.slice none 0 0)).heap.size from ⟨by have h2 := HZ.out; omega, Nat.lt_of_lt_of_le HX5.out.lt (set5_grown w5 (W2.heap.size + 1) (.int .i64 s) (.int .i64 n) (.string t) (.slice an' ns.length cn') (.slice none 0 0)).size⟩)
      clear HA HB HG HZ RA RB RC HS HSA HSB HSC HVA HVB HVC HXB HXC HG5 HR5 HO5 HGX d0 d1 d2 d3 c0 c1 c2 c3 hgx hnx1 hnx2 HX5 hkp y0 y1 y2 y3 y4 z0 z1 z2 z3 z4
      generalize (((((w5.setCell ⟨(W2.heap.size + 1), 0, none⟩ (.int .i64 s)).setCell ⟨(W2.heap.size + 1), 1, none⟩ (.int .i64 n)).setCell ⟨(W2.heap.size + 1), 2, none⟩ (.string t)).setCell ⟨(W2.heap.size + 1), 3, none⟩ (.slice an' ns.length cn')).setCell ⟨(W2.heap.size + 1), 4, none⟩ (.slice none 0 0)) = w6 at HX6 HR6 HA6 HB6 HG6 HOX HXL ⊢
      generalize W2.heap.size + 1 = xb at HX6 HOX HXL ⊢
      go_wp2
      go_loopw [4] (fun i wr => ∃ (k : Nat) (sk : Value), i = .int .i64 (k : Int) ∧ k ≤ ks.length ∧ Hid (Blk wr xb 27 [.int .i64 s, .int .i64 n, .string t, .slice an' ns.length cn', sk]) ∧ Hid (KidsIn wr (fun b => w6.heap.size ≤ b) sk (ks.take k)) ∧ Hid (Row wr (W.heap.size + 2) (.slice an' ns.length cn') (txs ns)) ∧ Hid (Blk wr W.heap.size 27 [.int .i64 s, .int .i64 n, .string t, .slice an ns.length cn, .slice ak ks.length ck]) ∧ Hid (Blk wr (W.heap.size + 1) 27 [.int .i64 0, .int .i64 0, .string ⟨#[]⟩, .slice none 0 0, .slice none 0 0]) ∧ Hid (w6.grownBy wr (some xb))) (fun i _ => ks.length - (intOf i).toNat)
      case atStart => exact ⟨0, .slice none 0 0, rfl, Nat.zero_le _, HX6, Lib.hid (KidsIn.nil _ _), HR6, HA6, HB6, Lib.hid (grown_refl _ _)⟩
      case round =>
        obtain ⟨k, sk, rfl, hk, HX, HK, HR, HA, HB, HG⟩ := hrel
        have HLEN := Lib.hid (show (ks.take k).length = k from by rw [List.length_take]; omega)
        obtain ⟨ta, cp, hsk, hcp⟩ := HK.out.shape
        rw [HLEN.out] at hsk hcp
        subst hsk
        have HGW := Lib.hid (show W.grownBy wr none from grown_into HG6.out HG.out (by have := HXL.out; omega))
        have a4 : wr.cell? ⟨W.heap.size, 4, none⟩ = some (.slice ak ks.length ck) := HA.out.cell rfl
        by_cases hlt : k < ks.length
        case neg =>
          obtain rfl : k = ks.length := by omega
          have hke : KidsIn wr (fun b => w6.heap.size ≤ b) (.slice ta ks.length cp) ks := by
            have := HK.out
            rwa [List.take_length] at this
          have hx0 : wr.cell? ⟨xb, 0, none⟩ = some (.int .i64 s) := HX.out.cell rfl
          have hx1 : wr.cell? ⟨xb, 1, none⟩ = some (.int .i64 n) := HX.out.cell rfl
          have hx2 : wr.cell? ⟨xb, 2, none⟩ = some (.string t) := HX.out.cell rfl
          have hx3 : wr.cell? ⟨xb, 3, none⟩ = some (.slice an' ns.length cn') := HX.out.cell rfl
          have hx4 : wr.cell? ⟨xb, 4, none⟩ = some (.slice ta ks.length cp) := HX.out.cell rfl
          have r0 : wr.cell? ⟨W.heap.size + 1, 0, none⟩ = some (.int .i64 0) := HB.out.cell rfl
          have r1 : wr.cell? ⟨W.heap.size + 1, 1, none⟩ = some (.int .i64 0) := HB.out.cell rfl
          have r2 : wr.cell? ⟨W.heap.size + 1, 2, none⟩ = some (.string ⟨#[]⟩) := HB.out.cell rfl
          have r3 : wr.cell? ⟨W.heap.size + 1, 3, none⟩ = some (.slice none 0 0) := HB.out.cell rfl
          have r4 : wr.cell? ⟨W.heap.size + 1, 4, none⟩ = some (.slice none 0 0) := HB.out.cell rfl
          have g0 := HB.out.frozen 0
          have g1 := HB.out.frozen 1
          have g2 := HB.out.frozen 2
          have g3 := HB.out.frozen 3
          have g4 := HB.out.frozen 4
          have hg5 := set5_grown wr (W.heap.size + 1) (.int .i64 s) (.int .i64 n) (.string t) (.slice an' ns.length cn') (.slice ta ks.length cp)
          have hxl := HXL.out
          have hw6 := HG6.out.size
          have hro := HR.out.kept hg5 (fun q hq e => by have h1 := (HOX.out q hq).1; cases e; omega)
          have hki := hke.kept hg5 (fun q hq hx => by cases hq; omega)
          have HEND := Lib.hid (show CopyR W (set5 wr (W.heap.size + 1) (.int .i64 s) (.int .i64 n) (.string t) (.slice an' ns.length cn') (.slice ta ks.length cp)) (.node s n t ns ks) (.returned (.agg #[.int .i64 s, .int .i64 n, .string t, .slice an' ns.length cn', .slice ta ks.length cp])) from by
            obtain ⟨an3, cn3, he, hcn3, hlx⟩ := row_txs hro
            cases he
            exact ⟨s, n, t, ns, ks, an', ta, cn', cp, rfl, rfl, hro.base (by omega), hki.mono (fun b _ hb => ⟨by omega, fun e => by have h1 := (HOX.out b e).2.2; omega⟩), KidsIn.made hki rfl (fun b hb => by omega) (hlx.mono (fun b _ hb => by have := hb.1; omega)) hcn3 ht hcl hkl HSL.out hs1 hs2 hn1 hn2, grown_into HGW.out hg5 (by omega)⟩)
          have HBE := Lib.hid (set5_blk HB.out (.int .i64 s) (.int .i64 n) (.string t) (.slice an' ns.length cn') (.slice ta ks.length cp))
          clear hg5 hro hki hke HX HK HR HA HB HG HGW
          go_wp2
          exact ⟨rfl, _, results_five Tryz.results74 _ _ (W.heap.size + 1) 27 _ _ HBE.out Tryz.underlying27 rfl info26s rfl, HEND.out⟩
        have hkI : (k : Int) < ks.length := by omega
        rcases HP.out with h0 | ⟨b, o, rfl, -, hc⟩
        · omega
        have HGWR := Lib.hid (grown_trans HW.out HGW.out)
        obtain ⟨p0, p1, p2, p3, p4, hcs, e0, e1, e2, e3, e4⟩ := (hc k hlt).kept HGWR.out (by simp)
        have HCA := Lib.hid (HIH.out k ks[k] (by simp [hlt]) wr.drew (grown_drew HGWR.out))
        rw [hcs] at HCA
        clear hc hcs
        have x4 : wr.cell? ⟨xb, 4, none⟩ = some (.slice ta k cp) := HX.out.cell rfl
        have hak : ks.length ≤ ck := hck
        go_wp2
        go_region_law (first | (refine step_append_rowK (by rfl) (.tmp 24) (.tmp 31) 25 (by rfl) 27 i26 (.agg #[.int .i64 0, .int .i64 0, .string ⟨#[]⟩, .slice none 0 0, .slice none 0 0]) 80 Tryz.underlying25 HII.out.1 HII.out.2.1 HII.out.2.2.1 HII.out.2.2.2 rfl 0 _ (ks.take k).length css.flatten (by rfl) HRA.out ⟨w7.heap.size, 0, none⟩ 1 1 [c0, c1, c2, c3, c4] (by rfl) rfl (news_new _ _ _) HONE.out (by rw [HLEN.out]; unfold maxLen; omega) (by rw [HLEN.out]; omega) (Nat.zero_le _) ?_; intro v' w8 HR8 HG8 HO8; obtain ⟨ta', cp', hv', hcp'⟩ := HR8.out.shape; rw [HLEN.out] at hv'; subst hv'; have HX8 := Lib.hid (HX7.out.kept HG8.out HNE.out); have x4b : w8.cell? ⟨xb, 4, none⟩ = some (.slice ta k cp) := HX8.out.cell rfl; have f4 := HX8.out.frozen 4) | (go_simp; go_at_call 74; refine HCA.out.mono ?_; rintro e w7 ⟨s', n', t', ns', ks', an2, ak2, cn2, ck2, hT, rfl, hrow2, hkid2, hvx, hg7⟩; obtain ⟨c0, hc0⟩ : ∃ c, c = Value.int .i64 s' := ⟨_, rfl⟩; obtain ⟨c1, hc1⟩ : ∃ c, c = Value.int .i64 n' := ⟨_, rfl⟩; obtain ⟨c2, hc2⟩ : ∃ c, c = Value.string t' := ⟨_, rfl⟩; obtain ⟨c3, hc3⟩ : ∃ c, c = Value.slice an2 ns'.length cn2 := ⟨_, rfl⟩; obtain ⟨c4, hc4⟩ : ∃ c, c = Value.slice ak2 ks'.length ck2 := ⟨_, rfl⟩; rw [← hc0, ← hc1, ← hc2, ← hc3, ← hc4] at hvx; rw [← hc0, ← hc1, ← hc2, ← hc3, ← hc4]; have HONE := Lib.hid (show ∀ v ∈ [c0, c1, c2, c3, c4], v.oneCell' = true from by intro v hv; obtain ⟨_, _, _, _, _, he, h⟩ := hvx.five; exact h v hv); clear hc0 hc1 hc2 hc3 hc4 hrow2 hkid2 hT; have HGR := Lib.hid (show wr.grownBy w7 none from grown_trans (grown_drew (grown_refl wr _)) hg7); have HX7a := Lib.hid (HX.out.kept HGR.out (by simp)); have x4a : w7.cell? ⟨xb, 4, none⟩ = some (.slice ta k cp) := HX7a.out.cell rfl; obtain ⟨css, hcl, hrk, hxo, hkv⟩ := (HK.out.kept HGR.out (fun q hq => by cases hq)); have HRA := Lib.hid (hrk.kept (World.grownBy_alloc w7 (Obj.cells #[c0, c1, c2, c3, c4] 27) none) (by simp)); have HX7 := Lib.hid (HX7a.out.alloc (Obj.cells #[c0, c1, c2, c3, c4] 27)); have x4c : (w7.alloc (Obj.cells #[c0, c1, c2, c3, c4] 27)).cell? ⟨xb, 4, none⟩ = some (.slice ta k cp) := HX7.out.cell rfl; have HNE := Lib.hid (show some xb ≠ (Value.slice ta k cp).ownBlock from fun e => by have h1 := hxo xb e.symm; have h2 := HXL.out; omega); have HKV := Lib.hid (And.intro hcl (And.intro hxo hkv)); have HVX := Lib.hid hvx; have HR7 := Lib.hid (HR.out.kept HGR.out (by simp)); have HA7 := Lib.hid (HA.out.kept HGR.out (by simp)); have HB7 := Lib.hid (HB.out.kept HGR.out (by simp)); have HG7 := Lib.hid (grown_trans HG.out (grown_widen HGR.out)); clear hg7 hrk hxo hkv hcl hvx))
        all_goals
          clear e0 e1 e2 e3 e4 x4 a4
          go_wp2
          go_roundw
          case rel =>
            have hal := World.grownBy_alloc w7 (Obj.cells #[c0, c1, c2, c3, c4] 27) none
            have hown : ∀ q, (Value.slice ta k cp).ownBlock = some q → w6.heap.size ≤ q := HKV.out.2.1
            have hw6 := HG.out.size
            have hkids : KidsIn w8 (fun b => w6.heap.size ≤ b) (.slice ta' (k + 1) cp') (ks.take k ++ [ks[k]]) := KidsIn.more (X := fun b => w6.heap.size ≤ b) (Z := fun b => wr.heap.size ≤ b) HKV.out.1 HKV.out.2.1 (fun j k hj => (HKV.out.2.2 j k hj).kept (Kept.of_grown hal (fun q hq => by cases hq))) (HVX.out.kept (Kept.of_grown hal (fun q hq => by cases hq))) (fun b _ hb => ⟨by omega, fun e => by have := (HK.out.lt b e).2; omega⟩) HR8.out HG8.out HO8.out (fun q hq => by have h2 := HGR.out.size; have h3 := hal.size; omega)
            rw [show ks.take k ++ [ks[k]] = ks.take (k + 1) from by rw [List.take_add_one]; simp [hlt]] at hkids
            have hgs := grown_set (grown_refl w8 (some xb)) 4 (.slice ta' (k + 1) cp')
            have hxl := HXL.out
            refine ⟨k + 1, .slice ta' (k + 1) cp', by go_num, by omega, Lib.hid (HX8.out.set 4 _), Lib.hid (hkids.kept hgs (fun q hq hx => by cases hq; omega)), Lib.hid (((HR7.out.alloc _).kept HG8.out (fun q hq e => by have h1 := hown q e.symm; have h2 := (HOX.out q hq).2.2; omega)).kept hgs (fun q hq e => by have h1 := (HOX.out q hq).2.1; cases e; exact h1 rfl)), Lib.hid (((HA7.out.alloc _).kept HG8.out (fun e => by have := hown _ e.symm; omega)).kept hgs (by simp; omega)), Lib.hid (((HB7.out.alloc _).kept HG8.out (fun e => by have := hown _ e.symm; omega)).kept hgs (by simp; omega)), Lib.hid (grown_trans (grown_own (grown_alloc HG7.out _) HG8.out hown) hgs)⟩
          case measure => simp [intOf]; omega
    · have HX6 := Lib.hid (show Blk (((((w5.setCell ⟨W2.heap.size, 0, none⟩ (.int .i64 s)).setCell ⟨W2.heap.size, 1, none⟩ (.int .i64 n)).setCell ⟨W2.heap.size, 2, none⟩ (.string t)).setCell ⟨W2.heap.size, 3, none⟩ (.slice an' ns.length cn')).setCell ⟨W2.heap.size, 4, none⟩ (.slice none 0 0)) W2.heap.size 27 [.int .i64 s, .int .i64 n, .string t, .slice an' ns.length cn', .slice none 0 0] from set5_blk HX5.out _ _ _ _ _)
      have HR6 := Lib.hid (show Row (((((w5.setCell ⟨W2.heap.size, 0, none⟩ (.int .i64 s)).setCell ⟨W2.heap.size, 1, none⟩ (.int .i64 n)).setCell ⟨W2.heap.size, 2, none⟩ (.string t)).setCell ⟨W2.heap.size, 3, none⟩ (.slice an' ns.length cn')).setCell ⟨W2.heap.size, 4, none⟩ (.slice none 0 0)) (W.heap.size + 2) (.slice an' ns.length cn') (txs ns) from ((show Row w5 W2.heap.size _ (txs ns) from HR5.out).kept (set5_grown w5 W2.heap.size (.int .i64 s) (.int .i64 n) (.string t) (.slice an' ns.length cn') (.slice none 0 0)) (fun q hq e => by have h1 := HR5.out.lt q hq; have h3 := HO5.out q hq; have h4 : ((W2.alloc (Obj.cells #[Value.int .i64 0, .int .i64 0, .string ⟨#[]⟩, .slice none 0 0, .slice none 0 0] 27)).alloc (Obj.cells #[] 9)).drew.heap.size = W2.heap.size + 2 := (by simp); cases e; omega)).base (by have := HZ.out; omega))
      have HA6 := Lib.hid (show Blk (((((w5.setCell ⟨W2.heap.size, 0, none⟩ (.int .i64 s)).setCell ⟨W2.heap.size, 1, none⟩ (.int .i64 n)).setCell ⟨W2.heap.size, 2, none⟩ (.string t)).setCell ⟨W2.heap.size, 3, none⟩ (.slice an' ns.length cn')).setCell ⟨W2.heap.size, 4, none⟩ (.slice none 0 0)) W.heap.size 27 [.int .i64 s, .int .i64 n, .string t, .slice an ns.length cn, .slice ak ks.length ck] from ((HVC.out.kept HGX.out (by simp; omega)).kept (set5_grown w5 W2.heap.size (.int .i64 s) (.int .i64 n) (.string t) (.slice an' ns.length cn') (.slice none 0 0)) (by simp; omega)))
      have HB6 := Lib.hid (show Blk (((((w5.setCell ⟨W2.heap.size, 0, none⟩ (.int .i64 s)).setCell ⟨W2.heap.size, 1, none⟩ (.int .i64 n)).setCell ⟨W2.heap.size, 2, none⟩ (.string t)).setCell ⟨W2.heap.size, 3, none⟩ (.slice an' ns.length cn')).setCell ⟨W2.heap.size, 4, none⟩ (.slice none 0 0)) (W.heap.size + 1) 27 [.int .i64 0, .int .i64 0, .string ⟨#[]⟩, .slice none 0 0, .slice none 0 0] from (((HB.out.alloc (Obj.cells #[Value.int .i64 0, .int .i64 0, .string ⟨#[]⟩, .slice none 0 0, .slice none 0 0] 27)).alloc (Obj.cells #[] 9)).kept HGX.out (by have := HZ.out; simp; omega)).kept (set5_grown w5 W2.heap.size (.int .i64 s) (.int .i64 n) (.string t) (.slice an' ns.length cn') (.slice none 0 0)) (by have := HZ.out; simp; omega))
      have HG6 := Lib.hid (show W.grownBy (((((w5.setCell ⟨W2.heap.size, 0, none⟩ (.int .i64 s)).setCell ⟨W2.heap.size, 1, none⟩ (.int .i64 n)).setCell ⟨W2.heap.size, 2, none⟩ (.string t)).setCell ⟨W2.heap.size, 3, none⟩ (.slice an' ns.length cn')).setCell ⟨W2.heap.size, 4, none⟩ (.slice none 0 0)) none from grown_into (grown_into (grown_alloc (grown_alloc HG.out _) _) HGX.out (by have := HZ.out; omega)) (set5_grown w5 W2.heap.size (.int .i64 s) (.int .i64 n) (.string t) (.slice an' ns.length cn') (.slice none 0 0)) (by have := HZ.out; omega))
      have HOX := Lib.hid (show ∀ q, (Value.slice an' ns.length cn').ownBlock = some q → W.heap.size + 2 ≤ q ∧ q ≠ W2.heap.size ∧ q < (((((w5.setCell ⟨W2.heap.size, 0, none⟩ (.int .i64 s)).setCell ⟨W2.heap.size, 1, none⟩ (.int .i64 n)).setCell ⟨W2.heap.size, 2, none⟩ (.string t)).setCell ⟨W2.heap.size, 3, none⟩ (.slice an' ns.length cn')).setCell ⟨W2.heap.size, 4, none⟩ (.slice none 0 0)).heap.size from fun q hq => by have h1 := HR5.out.lt q hq; have h2 := HZ.out; have h3 := HO5.out q hq; have h4 : ((W2.alloc (Obj.cells #[Value.int .i64 0, .int .i64 0, .string ⟨#[]⟩, .slice none 0 0, .slice none 0 0] 27)).alloc (Obj.cells #[] 9)).drew.heap.size = W2.heap.size + 2 := (by simp); have h5 := (set5_grown w5 W2.heap.size (.int .i64 s) (.int .i64 n) (.string t) (.slice an' ns.length cn') (.slice none 0 0)).size; have h6 : (set5 w5 W2.heap.size (.int .i64 s) (.int .i64 n) (.string t) (.slice an' ns.length cn') (.slice none 0 0)).heap.size = (((((w5.setCell ⟨W2.heap.size, 0, none⟩ (.int .i64 s)).setCell ⟨W2.heap.size, 1, none⟩ (.int .i64 n)).setCell ⟨W2.heap.size, 2, none⟩ (.string t)).setCell ⟨W2.heap.size, 3, none⟩ (.slice an' ns.length cn')).setCell ⟨W2.heap.size, 4, none⟩ (.slice none 0 0)).heap.size := rfl; omega)
      have HXL := Lib.hid (show W.heap.size + 2 ≤ W2.heap.size ∧ W2.heap.size < (((((w5.setCell ⟨W2.heap.size, 0, none⟩ (.int .i64 s)).setCell ⟨W2.heap.size, 1, none⟩ (.int .i64 n)).setCell ⟨W2.heap.size, 2, none⟩ (.string t)).setCell ⟨W2.heap.size, 3, none⟩ (.slice an' ns.length cn')).setCell ⟨W2.heap.size, 4, none⟩ (.slice none 0 0)).heap.size from ⟨by have h2 := HZ.out; omega, Nat.lt_of_lt_of_le HX5.out.lt (set5_grown w5 W2.heap.size (.int .i64 s) (.int .i64 n) (.string t) (.slice an' ns.length cn') (.slice none 0 0)).size⟩)
      clear HA HB HG HZ RA RB RC HS HSA HSB HSC HVA HVB HVC HXB HXC HG5 HR5 HO5 HGX d0 d1 d2 d3 c0 c1 c2 c3 hgx hnx1 hnx2 HX5 hkp y0 y1 y2 y3 y4 z0 z1 z2 z3 z4
      generalize (((((w5.setCell ⟨W2.heap.size, 0, none⟩ (.int .i64 s)).setCell ⟨W2.heap.size, 1, none⟩ (.int .i64 n)).setCell ⟨W2.heap.size, 2, none⟩ (.string t)).setCell ⟨W2.heap.size, 3, none⟩ (.slice an' ns.length cn')).setCell ⟨W2.heap.size, 4, none⟩ (.slice none 0 0)) = w6 at HX6 HR6 HA6 HB6 HG6 HOX HXL ⊢
      generalize hxb : W2.heap.size = xb at HX6 HOX HXL ⊢
      clear hxb
      go_wp2
      go_loopw [4] (fun i wr => ∃ (k : Nat) (sk : Value), i = .int .i64 (k : Int) ∧ k ≤ ks.length ∧ Hid (Blk wr xb 27 [.int .i64 s, .int .i64 n, .string t, .slice an' ns.length cn', sk]) ∧ Hid (KidsIn wr (fun b => w6.heap.size ≤ b) sk (ks.take k)) ∧ Hid (Row wr (W.heap.size + 2) (.slice an' ns.length cn') (txs ns)) ∧ Hid (Blk wr W.heap.size 27 [.int .i64 s, .int .i64 n, .string t, .slice an ns.length cn, .slice ak ks.length ck]) ∧ Hid (Blk wr (W.heap.size + 1) 27 [.int .i64 0, .int .i64 0, .string ⟨#[]⟩, .slice none 0 0, .slice none 0 0]) ∧ Hid (w6.grownBy wr (some xb))) (fun i _ => ks.length - (intOf i).toNat)
      case atStart => exact ⟨0, .slice none 0 0, rfl, Nat.zero_le _, HX6, Lib.hid (KidsIn.nil _ _), HR6, HA6, HB6, Lib.hid (grown_refl _ _)⟩
      case round =>
        obtain ⟨k, sk, rfl, hk, HX, HK, HR, HA, HB, HG⟩ := hrel
        have HLEN := Lib.hid (show (ks.take k).length = k from by rw [List.length_take]; omega)
        obtain ⟨ta, cp, hsk, hcp⟩ := HK.out.shape
        rw [HLEN.out] at hsk hcp
        subst hsk
        have HGW := Lib.hid (show W.grownBy wr none from grown_into HG6.out HG.out (by have := HXL.out; omega))
        have a4 : wr.cell? ⟨W.heap.size, 4, none⟩ = some (.slice ak ks.length ck) := HA.out.cell rfl
        by_cases hlt : k < ks.length
        case neg =>
          obtain rfl : k = ks.length := by omega
          have hke : KidsIn wr (fun b => w6.heap.size ≤ b) (.slice ta ks.length cp) ks := by
            have := HK.out
            rwa [List.take_length] at this
          have hx0 : wr.cell? ⟨xb, 0, none⟩ = some (.int .i64 s) := HX.out.cell rfl
          have hx1 : wr.cell? ⟨xb, 1, none⟩ = some (.int .i64 n) := HX.out.cell rfl
          have hx2 : wr.cell? ⟨xb, 2, none⟩ = some (.string t) := HX.out.cell rfl
          have hx3 : wr.cell? ⟨xb, 3, none⟩ = some (.slice an' ns.length cn') := HX.out.cell rfl
          have hx4 : wr.cell? ⟨xb, 4, none⟩ = some (.slice ta ks.length cp) := HX.out.cell rfl
          have r0 : wr.cell? ⟨W.heap.size + 1, 0, none⟩ = some (.int .i64 0) := HB.out.cell rfl
          have r1 : wr.cell? ⟨W.heap.size + 1, 1, none⟩ = some (.int .i64 0) := HB.out.cell rfl
          have r2 : wr.cell? ⟨W.heap.size + 1, 2, none⟩ = some (.string ⟨#[]⟩) := HB.out.cell rfl
          have r3 : wr.cell? ⟨W.heap.size + 1, 3, none⟩ = some (.slice none 0 0) := HB.out.cell rfl
          have r4 : wr.cell? ⟨W.heap.size + 1, 4, none⟩ = some (.slice none 0 0) := HB.out.cell rfl
          have g0 := HB.out.frozen 0
          have g1 := HB.out.frozen 1
          have g2 := HB.out.frozen 2
          have g3 := HB.out.frozen 3
          have g4 := HB.out.frozen 4
          have hg5 := set5_grown wr (W.heap.size + 1) (.int .i64 s) (.int .i64 n) (.string t) (.slice an' ns.length cn') (.slice ta ks.length cp)
          have hxl := HXL.out
          have hw6 := HG6.out.size
          have hro := HR.out.kept hg5 (fun q hq e => by have h1 := (HOX.out q hq).1; cases e; omega)
          have hki := hke.kept hg5 (fun q hq hx => by cases hq; omega)
          have HEND := Lib.hid (show CopyR W (set5 wr (W.heap.size + 1) (.int .i64 s) (.int .i64 n) (.string t) (.slice an' ns.length cn') (.slice ta ks.length cp)) (.node s n t ns ks) (.returned (.agg #[.int .i64 s, .int .i64 n, .string t, .slice an' ns.length cn', .slice ta ks.length cp])) from by
            obtain ⟨an3, cn3, he, hcn3, hlx⟩ := row_txs hro
            cases he
            exact ⟨s, n, t, ns, ks, an', ta, cn', cp, rfl, rfl, hro.base (by omega), hki.mono (fun b _ hb => ⟨by omega, fun e => by have h1 := (HOX.out b e).2.2; omega⟩), KidsIn.made hki rfl (fun b hb => by omega) (hlx.mono (fun b _ hb => by have := hb.1; omega)) hcn3 ht hcl hkl HSL.out hs1 hs2 hn1 hn2, grown_into HGW.out hg5 (by omega)⟩)
          have HBE := Lib.hid (set5_blk HB.out (.int .i64 s) (.int .i64 n) (.string t) (.slice an' ns.length cn') (.slice ta ks.length cp))
          clear hg5 hro hki hke HX HK HR HA HB HG HGW
          go_wp2
          exact ⟨rfl, _, results_five Tryz.results74 _ _ (W.heap.size + 1) 27 _ _ HBE.out Tryz.underlying27 rfl info26s rfl, HEND.out⟩
        have hkI : (k : Int) < ks.length := by omega
        rcases HP.out with h0 | ⟨b, o, rfl, -, hc⟩
        · omega
        have HGWR := Lib.hid (grown_trans HW.out HGW.out)
        obtain ⟨p0, p1, p2, p3, p4, hcs, e0, e1, e2, e3, e4⟩ := (hc k hlt).kept HGWR.out (by simp)
        have HCA := Lib.hid (HIH.out k ks[k] (by simp [hlt]) wr.drew (grown_drew HGWR.out))
        rw [hcs] at HCA
        clear hc hcs
        have x4 : wr.cell? ⟨xb, 4, none⟩ = some (.slice ta k cp) := HX.out.cell rfl
        have hak : ks.length ≤ ck := hck
        go_wp2
        go_region_law (first | (refine step_append_rowK (by rfl) (.tmp 24) (.tmp 31) 25 (by rfl) 27 i26 (.agg #[.int .i64 0, .int .i64 0, .string ⟨#[]⟩, .slice none 0 0, .slice none 0 0]) 80 Tryz.underlying25 HII.out.1 HII.out.2.1 HII.out.2.2.1 HII.out.2.2.2 rfl 0 _ (ks.take k).length css.flatten (by rfl) HRA.out ⟨w7.heap.size, 0, none⟩ 1 1 [c0, c1, c2, c3, c4] (by rfl) rfl (news_new _ _ _) HONE.out (by rw [HLEN.out]; unfold maxLen; omega) (by rw [HLEN.out]; omega) (Nat.zero_le _) ?_; intro v' w8 HR8 HG8 HO8; obtain ⟨ta', cp', hv', hcp'⟩ := HR8.out.shape; rw [HLEN.out] at hv'; subst hv'; have HX8 := Lib.hid (HX7.out.kept HG8.out HNE.out); have x4b : w8.cell? ⟨xb, 4, none⟩ = some (.slice ta k cp) := HX8.out.cell rfl; have f4 := HX8.out.frozen 4) | (go_simp; go_at_call 74; refine HCA.out.mono ?_; rintro e w7 ⟨s', n', t', ns', ks', an2, ak2, cn2, ck2, hT, rfl, hrow2, hkid2, hvx, hg7⟩; obtain ⟨c0, hc0⟩ : ∃ c, c = Value.int .i64 s' := ⟨_, rfl⟩; obtain ⟨c1, hc1⟩ : ∃ c, c = Value.int .i64 n' := ⟨_, rfl⟩; obtain ⟨c2, hc2⟩ : ∃ c, c = Value.string t' := ⟨_, rfl⟩; obtain ⟨c3, hc3⟩ : ∃ c, c = Value.slice an2 ns'.length cn2 := ⟨_, rfl⟩; obtain ⟨c4, hc4⟩ : ∃ c, c = Value.slice ak2 ks'.length ck2 := ⟨_, rfl⟩; rw [← hc0, ← hc1, ← hc2, ← hc3, ← hc4] at hvx; rw [← hc0, ← hc1, ← hc2, ← hc3, ← hc4]; have HONE := Lib.hid (show ∀ v ∈ [c0, c1, c2, c3, c4], v.oneCell' = true from by intro v hv; obtain ⟨_, _, _, _, _, he, h⟩ := hvx.five; exact h v hv); clear hc0 hc1 hc2 hc3 hc4 hrow2 hkid2 hT; have HGR := Lib.hid (show wr.grownBy w7 none from grown_trans (grown_drew (grown_refl wr _)) hg7); have HX7a := Lib.hid (HX.out.kept HGR.out (by simp)); have x4a : w7.cell? ⟨xb, 4, none⟩ = some (.slice ta k cp) := HX7a.out.cell rfl; obtain ⟨css, hcl, hrk, hxo, hkv⟩ := (HK.out.kept HGR.out (fun q hq => by cases hq)); have HRA := Lib.hid (hrk.kept (World.grownBy_alloc w7 (Obj.cells #[c0, c1, c2, c3, c4] 27) none) (by simp)); have HX7 := Lib.hid (HX7a.out.alloc (Obj.cells #[c0, c1, c2, c3, c4] 27)); have x4c : (w7.alloc (Obj.cells #[c0, c1, c2, c3, c4] 27)).cell? ⟨xb, 4, none⟩ = some (.slice ta k cp) := HX7.out.cell rfl; have HNE := Lib.hid (show some xb ≠ (Value.slice ta k cp).ownBlock from fun e => by have h1 := hxo xb e.symm; have h2 := HXL.out; omega); have HKV := Lib.hid (And.intro hcl (And.intro hxo hkv)); have HVX := Lib.hid hvx; have HR7 := Lib.hid (HR.out.kept HGR.out (by simp)); have HA7 := Lib.hid (HA.out.kept HGR.out (by simp)); have HB7 := Lib.hid (HB.out.kept HGR.out (by simp)); have HG7 := Lib.hid (grown_trans HG.out (grown_widen HGR.out)); clear hg7 hrk hxo hkv hcl hvx))
        all_goals
          clear e0 e1 e2 e3 e4 x4 a4
          go_wp2
          go_roundw
          case rel =>
            have hal := World.grownBy_alloc w7 (Obj.cells #[c0, c1, c2, c3, c4] 27) none
            have hown : ∀ q, (Value.slice ta k cp).ownBlock = some q → w6.heap.size ≤ q := HKV.out.2.1
            have hw6 := HG.out.size
            have hkids : KidsIn w8 (fun b => w6.heap.size ≤ b) (.slice ta' (k + 1) cp') (ks.take k ++ [ks[k]]) := KidsIn.more (X := fun b => w6.heap.size ≤ b) (Z := fun b => wr.heap.size ≤ b) HKV.out.1 HKV.out.2.1 (fun j k hj => (HKV.out.2.2 j k hj).kept (Kept.of_grown hal (fun q hq => by cases hq))) (HVX.out.kept (Kept.of_grown hal (fun q hq => by cases hq))) (fun b _ hb => ⟨by omega, fun e => by have := (HK.out.lt b e).2; omega⟩) HR8.out HG8.out HO8.out (fun q hq => by have h2 := HGR.out.size; have h3 := hal.size; omega)
            rw [show ks.take k ++ [ks[k]] = ks.take (k + 1) from by rw [List.take_add_one]; simp [hlt]] at hkids
            have hgs := grown_set (grown_refl w8 (some xb)) 4 (.slice ta' (k + 1) cp')
            have hxl := HXL.out
            refine ⟨k + 1, .slice ta' (k + 1) cp', by go_num, by omega, Lib.hid (HX8.out.set 4 _), Lib.hid (hkids.kept hgs (fun q hq hx => by cases hq; omega)), Lib.hid (((HR7.out.alloc _).kept HG8.out (fun q hq e => by have h1 := hown q e.symm; have h2 := (HOX.out q hq).2.2; omega)).kept hgs (fun q hq e => by have h1 := (HOX.out q hq).2.1; cases e; exact h1 rfl)), Lib.hid (((HA7.out.alloc _).kept HG8.out (fun e => by have := hown _ e.symm; omega)).kept hgs (by simp; omega)), Lib.hid (((HB7.out.alloc _).kept HG8.out (fun e => by have := hown _ e.symm; omega)).kept hgs (by simp; omega)), Lib.hid (grown_trans (grown_own (grown_alloc HG7.out _) HG8.out hown) hgs)⟩
          case measure => simp [intOf]; omega
end Go.Proofs.YtgmigloafcejdaaGreatDoor
